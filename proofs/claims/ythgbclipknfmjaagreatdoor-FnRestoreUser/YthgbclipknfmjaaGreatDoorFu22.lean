/-
  Rvp Lists4 Draws Draws2 Dmw Dml Drn Mwk Smp Smt in one. By an AI agent.
-/
import Derived.Test.YthgbclipknfmjaaGreatDoorFu21
import Derived.Test.YthgbclipknfmjaaGreatDoorFu20
import Derived.Test.YthgbclipknfmjaaGreatDoorFu01
import Derived.Test.YthgbclipknfmjaaGreatDoorFu19
import Derived.Test.YthgbclipknfmjaaGreatDoorFu13
namespace Go.Proofs.YthgbclipknfmjaaGreatDoor
open Go.ChangeShapes Go.WideShapes Go.ChangeAt Go.RowKit Go.Deep Go.Lib
set_option linter.unusedVariables false
set_option linter.unusedSimpArgs false
set_option maxRecDepth 100000

def mailsS (gs : List FM) : Nat := (gs.map fun g => g.mails.length).sum
/-- A desk that is emptied. -/
def EmptyD (fs : List FM) : Prop := ∀ f ∈ fs, f.mails = []
theorem sum_empty : ∀ {fs : List FM}, EmptyD fs → sumF fs = 0
  | [], _ => rfl
  | f :: fs, h => by
    show f.mails.length + sumF fs = 0
    rw [h f List.mem_cons_self, sum_empty fun x hx => h x (List.mem_cons_of_mem _ hx)]
    rfl
theorem stepE_names {T fs : List FM} {n : ByteArray} : ∀ f ∈ stepE T fs n, ∃ h ∈ fs, h.name = f.name := fun f hf => by
  cases hl : lookF n fs with
  | none =>
    unfold stepE at hf
    rw [hl] at hf
    exact ⟨f, hf, rfl⟩
  | some g =>
    obtain ⟨hg, hgn⟩ := lookF_mem hl
    rw [stepE_some hl] at hf
    have hp : ∀ x ∈ putF ⟨n, g.val, g.next, []⟩ fs, ∃ h ∈ fs, h.name = x.name := fun x hx => by
      rcases putF_mem hx with h9 | h9
      · exact ⟨x, h9, rfl⟩
      · exact ⟨g, hg, by rw [h9, hgn]⟩
    split at hf
    · exact hp f hf
    · exact hp f ((dropF_sub _ _).subset hf)
theorem emE_names {T : List FM} : ∀ {ns : List ByteArray} {fs : List FM}, ∀ f ∈ emE T fs ns, ∃ h ∈ fs, h.name = f.name
  | [], fs, f, hf => ⟨f, hf, rfl⟩
  | n :: ns, fs, f, hf => by
    obtain ⟨h, h1, h2⟩ := emE_names (ns := ns) (fs := stepE T fs n) f hf
    obtain ⟨k, k1, k2⟩ := stepE_names h h1
    exact ⟨k, k1, k2.trans h2⟩
theorem stepE_nodup {T fs : List FM} {n : ByteArray} (h : (fs.map (·.name)).Nodup) : ((stepE T fs n).map (·.name)).Nodup := by
  cases hl : lookF n fs with
  | none =>
    unfold stepE
    rw [hl]
    exact h
  | some g =>
    rw [stepE_some hl]
    split
    · exact putF_names h
    · exact (putF_names h).sublist ((dropF_sub _ _).map _)
theorem emE_nodup {T : List FM} : ∀ {ns : List ByteArray} {fs : List FM}, (fs.map (·.name)).Nodup → ((emE T fs ns).map (·.name)).Nodup
  | [], _, h => h
  | n :: ns, fs, h => emE_nodup (ns := ns) (fs := stepE T fs n) (stepE_nodup h)
/-- What is done to the folder n: emptied, or gone if the old desk has it not. -/
theorem stepE_done {T fs : List FM} {n : ByteArray} (h : (fs.map (·.name)).Nodup) : ∀ f ∈ stepE T fs n, f.name = n → f.mails = [] ∧ (lookF n T).isSome = true := fun f hf hn => by
  cases hl : lookF n fs with
  | none =>
    unfold stepE at hf
    rw [hl] at hf
    have h9 := look_self h hf
    rw [hn, hl] at h9
    cases h9
  | some g =>
    rw [stepE_some hl] at hf
    have hnp := putF_names (g := ⟨n, g.val, g.next, []⟩) h
    split at hf
    · rename_i h1
      have h9 := look_self hnp hf
      rw [hn, lookF_put, if_pos rfl] at h9
      injection h9 with h9
      rw [← h9]
      exact ⟨rfl, h1⟩
    · exact absurd hn (drop_names hnp f hf)
theorem stepE_keep {T fs : List FM} {n : ByteArray} : ∀ f ∈ stepE T fs n, f.name ≠ n → f ∈ fs := fun f hf hn => by
  cases hl : lookF n fs with
  | none =>
    unfold stepE at hf
    rw [hl] at hf
    exact hf
  | some g =>
    rw [stepE_some hl] at hf
    have hp : ∀ x ∈ putF ⟨n, g.val, g.next, []⟩ fs, x.name ≠ n → x ∈ fs := fun x hx hxn => by
      rcases putF_mem hx with h9 | h9
      · exact h9
      · rw [h9] at hxn
        exact absurd rfl hxn
    split at hf
    · exact hp f hf hn
    · exact hp f ((dropF_sub _ _).subset hf) hn
theorem emE_done {T : List FM} : ∀ {ns : List ByteArray} {fs : List FM}, (fs.map (·.name)).Nodup → ∀ f ∈ emE T fs ns, f.name ∈ ns → f.mails = [] ∧ (lookF f.name T).isSome = true
  | n :: ns, fs, h, f, hf, hn => by
    have hnd := stepE_nodup (T := T) (n := n) h
    by_cases hm : f.name ∈ ns
    · exact emE_done (ns := ns) (fs := stepE T fs n) hnd f hf hm
    · have e : f.name = n := by
        rcases List.mem_cons.1 hn with h9 | h9
        · exact h9
        · exact absurd h9 hm
      have hk : ∀ {ms : List ByteArray} {gs : List FM}, f ∈ emE T gs ms → f.name ∉ ms → f ∈ gs := by
        intro ms
        induction ms with
        | nil => intro gs h9 _; exact h9
        | cons m ms ih =>
          intro gs h9 h8
          have h7 := ih (gs := stepE T gs m) h9 (fun h6 => h8 (List.mem_cons_of_mem _ h6))
          exact stepE_keep f h7 (fun e9 => h8 (by rw [e9]; exact List.mem_cons_self))
      have h5 := stepE_done h f (hk hf hm) e
      rw [e]
      exact h5
  | [], _, _, _, _, hn => by cases hn
/-- The folders restored one by one: what comes of it. -/
theorem rsL_is {u : ByteArray} : ∀ {gs : List FM} {nx nx' q : Int} {S S' : SM}, (gs.map (·.name)).Nodup → (S.fs.map (·.name)).Nodup → (∀ g ∈ gs, ∀ f ∈ S.fs, f.name = g.name → f.mails = []) → sumF S.fs + mailsS gs ≤ 6 → nx + gs.length ≤ 9999 → rsL u nx S gs = (q, nx', S') →
    (q = 7 ∨ (q = 0 ∧ nx ≤ nx' ∧ nx' ≤ nx + gs.length ∧ S'.aside = S.aside ∧ S'.word = S.word ∧ (S'.fs.map (·.name)).Nodup ∧ sumF S'.fs ≤ 6 ∧ (∀ g ∈ gs, ∃ v, nx ≤ v ∧ v < nx' ∧ (⟨g.name, v, g.next, g.mails⟩ : FM) ∈ S'.fs) ∧ ∀ f ∈ S'.fs, (∃ g ∈ gs, ∃ v, nx ≤ v ∧ v < nx' ∧ f = ⟨g.name, v, g.next, g.mails⟩) ∨ (f ∈ S.fs ∧ ∀ g ∈ gs, f.name ≠ g.name)))
  | [], nx, nx', q, S, S', _, hnd, _, hs, _, h => by
    have h9 : ((0 : Int), nx, S) = (q, nx', S') := h
    injection h9 with e1 h9
    injection h9 with e2 e3
    subst e1 e2 e3
    have hz : mailsS [] = 0 := rfl
    exact .inr ⟨rfl, Int.le_refl _, by simp, rfl, rfl, hnd, by omega, fun g hg => (by cases hg), fun f hf => .inr ⟨hf, fun g hg => (by cases hg)⟩⟩
  | g :: gs, nx, nx', q, S, S', hgn, hnd, hem, hs, hn9, h => by
    have hms : mailsS (g :: gs) = g.mails.length + mailsS gs := rfl
    have hlen : ((g :: gs).length : Int) = (gs.length : Int) + 1 := by simp
    rw [List.map_cons, List.nodup_cons] at hgn
    obtain ⟨hg1, hg2⟩ := hgn
    have hsum : sumF (putF ⟨g.name, nx, g.next, g.mails⟩ S.fs) = sumF S.fs + g.mails.length := by
      cases hl : lookF g.name S.fs with
      | none => exact sum_fresh (g := ⟨g.name, nx, g.next, g.mails⟩) hl
      | some f =>
        have h9 := sum_old (g := ⟨g.name, nx, g.next, g.mails⟩) (f := f) hl
        have h8 := hem g List.mem_cons_self f (lookF_mem hl).1 (lookF_mem hl).2
        rw [h8] at h9
        simpa using h9
    obtain ⟨q1, n1, S1, hQ⟩ : ∃ q1 n1 S1, rsM nx u S g = (q1, n1, S1) := ⟨_, _, _, rfl⟩
    have hq1 : q1 = 7 ∨ q1 = 0 := by
      unfold rsM at hQ
      rw [if_neg (by omega)] at hQ
      split at hQ
      · cases hQ; exact .inl rfl
      · split at hQ
        · rename_i h6
          have h7 : 6 < sumF (putF ⟨g.name, nx, g.next, g.mails⟩ S.fs) := h6
          rw [hsum] at h7
          omega
        · split at hQ
          · cases hQ; exact .inl rfl
          · cases hQ; exact .inr rfl
    rcases hq1 with rfl | rfl
    · rw [rsL_bad hQ (by decide)] at h
      injection h with e1 _
      exact .inl e1.symm
    · obtain ⟨k1, rfl, rfl⟩ := rsM_ok hQ
      rw [rsL_ok hQ] at h
      have hnd1 : ((S2F nx S g).fs.map (·.name)).Nodup := putF_names hnd
      have hem1 : ∀ x ∈ gs, ∀ f ∈ (S2F nx S g).fs, f.name = x.name → f.mails = [] := fun x hx f hf e => by
        rcases putF_mem hf with h9 | h9
        · exact hem x (List.mem_cons_of_mem _ hx) f h9 e
        · rw [h9] at e
          exact absurd (List.mem_map.2 ⟨x, hx, e.symm⟩) hg1
      have hs1 : sumF (S2F nx S g).fs + mailsS gs ≤ 6 := by
        show sumF (putF ⟨g.name, nx, g.next, g.mails⟩ S.fs) + _ ≤ 6
        rw [hsum]
        omega
      rcases rsL_is hg2 hnd1 hem1 hs1 (by omega) h with h9 | ⟨rfl, j1, j2, j3, j4, j5, j6, j7, j8⟩
      · exact .inl h9
      · refine .inr ⟨rfl, by omega, by omega, j3, j4, j5, j6, fun x hx => ?_, fun f hf => ?_⟩
        · rcases List.mem_cons.1 hx with rfl | h9
          · refine ⟨nx, Int.le_refl _, by omega, ?_⟩
            -- it stays: no later folder has its name
            have hin : ∀ {hs : List FM} {ny ny' q : Int} {R R' : SM} {G : FM}, G ∈ R.fs → (∀ y ∈ hs, y.name ≠ G.name) → rsL u ny R hs = (0, ny', R') → G ∈ R'.fs := by
              intro hs
              induction hs with
              | nil =>
                intro ny ny' q R R' G h1 _ h3
                have h9 : ((0 : Int), ny, R) = (0, ny', R') := h3
                injection h9 with _ h9
                injection h9 with _ e3
                rw [← e3]
                exact h1
              | cons y hs ih =>
                intro ny ny' q R R' G h1 h2 h3
                obtain ⟨q2, n2, R2, hQ2⟩ : ∃ q2 n2 R2, rsM ny u R y = (q2, n2, R2) := ⟨_, _, _, rfl⟩
                by_cases e : q2 = 0
                · subst e
                  obtain ⟨_, rfl, rfl⟩ := rsM_ok hQ2
                  rw [rsL_ok hQ2] at h3
                  exact ih (q := q) (show G ∈ (S2F ny R y).fs from put_other (g := ⟨y.name, ny, y.next, y.mails⟩) h1 (fun e9 => h2 y List.mem_cons_self e9.symm)) (fun z hz => h2 z (List.mem_cons_of_mem _ hz)) h3
                · rw [rsL_bad hQ2 e] at h3
                  injection h3 with e1 _
                  exact absurd e1 e
            exact hin (q := 0) (show (⟨x.name, nx, x.next, x.mails⟩ : FM) ∈ (S2F nx S x).fs from put_self) (fun y hy e => hg1 (List.mem_map.2 ⟨y, hy, e⟩)) h
          · obtain ⟨v, v1, v2, v3⟩ := j7 x h9
            exact ⟨v, by omega, v2, v3⟩
        · rcases j8 f hf with ⟨x, hx, v, v1, v2, v3⟩ | ⟨hf1, hf2⟩
          · exact .inl ⟨x, List.mem_cons_of_mem _ hx, v, by omega, v2, v3⟩
          · rcases putF_mem hf1 with h9 | h9
            · by_cases e : f.name = g.name
              · -- the folder of that name is the new one
                have h8 := look_self hnd1 hf1
                rw [e] at h8
                have h7 : lookF g.name (putF ⟨g.name, nx, g.next, g.mails⟩ S.fs) = some ⟨g.name, nx, g.next, g.mails⟩ := by rw [lookF_put, if_pos rfl]
                rw [show lookF g.name (S2F nx S g).fs = _ from h7] at h8
                injection h8 with h8
                exact .inl ⟨g, List.mem_cons_self, nx, Int.le_refl _, by omega, h8.symm⟩
              · exact .inr ⟨h9, fun x hx => by
                  rcases List.mem_cons.1 hx with rfl | h7
                  · exact e
                  · exact hf2 x h7⟩
            · exact .inl ⟨g, List.mem_cons_self, nx, Int.le_refl _, by omega, h9⟩
theorem sum_sub : ∀ {gs fs : List FM}, (gs.map (·.name)).Nodup → (∀ g ∈ gs, lookF g.name fs = some g) → mailsS gs ≤ sumF fs
  | [], _, _, _ => Nat.zero_le _
  | g :: gs, fs, hn, h => by
    rw [List.map_cons, List.nodup_cons] at hn
    have h1 := sum_dropF (h g List.mem_cons_self)
    have h2 := sum_sub (gs := gs) (fs := dropF g.name fs) hn.2 fun x hx => by
      rw [look_dropK (fun e => hn.1 (List.mem_map.2 ⟨x, hx, e⟩))]
      exact h x (List.mem_cons_of_mem _ hx)
    show g.mails.length + mailsS gs ≤ _
    omega
theorem names_same {A B : List ByteArray} (hA : A.Pairwise ltK) (hB : B.Pairwise ltK) (h : ∀ n, n ∈ A ↔ n ∈ B) : A = B := by
  have hm : (A.map fun n => ((n, e0) : PM)) = B.map fun n => ((n, e0) : PM) := by
    refine up_same (List.pairwise_map.2 hA) (List.pairwise_map.2 hB) fun p => ?_
    rw [List.mem_map, List.mem_map]
    constructor
    · rintro ⟨n, h1, h2⟩; exact ⟨n, (h n).1 h1, h2⟩
    · rintro ⟨n, h1, h2⟩; exact ⟨n, (h n).2 h1, h2⟩
  have h9 := congrArg (List.map Prod.fst) hm
  have e : ∀ l : List ByteArray, List.map Prod.fst (l.map fun n => ((n, e0) : PM)) = l := fun l => by
    induction l with
    | nil => rfl
    | cons x l ih => exact congrArg (x :: ·) ih
  rw [e, e] at h9
  exact h9
/-- What is asked of a user who is restored. -/
def RsuIs (N L R : List PM) (u : ByteArray) (q : Int) : Prop :=
  storeB R = true ∧ ((q = 7 ∧ R = N) ∨ (q = 0 ∧ flM R u = (listS L u, 0) ∧ flM L u = (listS L u, 0) ∧ (listS L u).length ≤ 60 ∧ ∀ n ∈ listS L u, n.size ≤ 8 ∧ ∃ vo vn nx Ms, Ms.length ≤ 6 ∧ vo < vn ∧ faM L u n = ((n, vo, nx, Ms), 0) ∧ faM R u n = ((n, vn, nx, Ms), 0)))
theorem rsu_is {k k2 : Nat} {N L R : List PM} {u : ByteArray} {q : Int} (hk : k ≤ 900) (h : Drawn k N) (h2 : Drawn k2 L) (hnm : nextM L ≤ nextM N) (hu : u = annT ∨ u = bobT) (hR : lawM2 (ruR N L u) (raskM N L [u]) = (R, q)) : RsuIs N L R u q := by
  obtain ⟨hsu, S, hS, hw, hF, hnd, n1⟩ := h.desk hu
  obtain ⟨_, T, hT, hwT, hFT, hndT, n1T⟩ := h2.desk hu
  have hus := word_slash hsu
  have hD : DeskS N u S := ⟨h.st, hS, hw, hF, hnd, n1⟩
  have hDT : DeskS L u T := ⟨h2.st, hT, hwT, hFT, hndT, n1T⟩
  have h25 := h.nx
  have hr0 : raskM N L [u] = 0 := by
    unfold raskM
    have h60 := (store_facts h2.st).1.1
    rw [if_neg (by omega), ask_ok h.st (by simp [hsu]), if_neg (by decide), h2.st, if_neg (by decide)]
  unfold lawM2 at hR
  rw [hr0, if_pos rfl] at hR
  obtain ⟨q2, nx', S', hQ⟩ : ∃ q2 nx' S', rsL u (nextM N) ⟨S.aside, S.word, emE T.fs S.fs (listS N u)⟩ (gsO L u) = (q2, nx', S') := ⟨_, _, _, rfl⟩
  have hQ2 : ruM (nextM N) u S T (listS N u) (gsO L u) = (q2, nx', S') := by
    unfold ruM
    rw [if_neg hw, if_neg hwT]
    exact hQ
  have hO := ruo_fits h.st h2.st hus hS hT hQ2
  obtain ⟨S9, hS9, _, hI⟩ := take_all h.st hus
  rw [hS] at hS9
  cases hS9
  obtain ⟨T9, hT9, _, hIT⟩ := take_all h2.st hus
  rw [hT] at hT9
  cases hT9
  have hgn : (gsO L u).map (·.name) = listS L u := gs_names h2.st hus
  have hgnd : ((gsO L u).map (·.name)).Nodup := by rw [hgn]; exact list_nodup h2.st
  have hend := emE_nodup (T := T.fs) (ns := listS N u) hnd
  have hedone : ∀ f ∈ emE T.fs S.fs (listS N u), f.mails = [] ∧ (lookF f.name T.fs).isSome = true := fun f hf => by
    obtain ⟨x, hx, hxn⟩ := emE_names f hf
    refine emE_done hnd f hf ((folders_mem h.st hus hI f.name).1 ?_)
    rw [← hxn]
    exact List.mem_map.2 ⟨x, hx, rfl⟩
  have hsub : mailsS (gsO L u) ≤ sumF T.fs := sum_sub hgnd fun g hg => (gs_look h2.st hus hT g hg).1
  have hz : sumF (emE T.fs S.fs (listS N u)) = 0 := sum_empty fun f hf => (hedone f hf).1
  have hln := gs_len h2.st hus
  have hsmT := hFT.sm
  have hcase := rsL_is (S := ⟨S.aside, S.word, emE T.fs S.fs (listS N u)⟩) hgnd hend (fun g _ f hf _ => (hedone f hf).1) (by show sumF (emE T.fs S.fs (listS N u)) + _ ≤ 6; omega) (by omega) hQ
  rcases hcase with rfl | ⟨rfl, j1, j2, j3, j4, j5, j6, j7, j8⟩
  · rw [hO.1 (by decide)] at hR
    cases hR
    exact ⟨h.st, .inl ⟨rfl, rfl⟩⟩
  obtain ⟨_, k1, _, Y, up, pm, _, k5⟩ := hO.2 rfl
  unfold fitsR at k5
  by_cases h60 : 60 < Y.length
  · rw [if_pos h60, hR] at k5
    injection k5 with e1 e2
    subst e1 e2
    exact ⟨h.st, .inl ⟨rfl, rfl⟩⟩
  rw [if_neg h60, hR] at k5
  injection k5 with e1 e2
  subst e1 e2
  have hfit : FitS nx' u S' := by
    refine ⟨hF.us, by rw [j4]; exact hF.ws, ?_, j6, fun f hf => ?_⟩
    · obtain ⟨g, hg⟩ := Option.isSome_iff_exists.1 hFT.ib
      have hin : inboxT ∈ (gsO L u).map (·.name) := by
        rw [hgn]
        exact (folders_mem h2.st hus hIT inboxT).1 (List.mem_map.2 ⟨g, (lookF_mem hg).1, (lookF_mem hg).2⟩)
      obtain ⟨x, hx, hxn⟩ := List.mem_map.1 hin
      obtain ⟨v, _, _, hv⟩ := j7 x hx
      have h9 := look_self j5 hv
      rw [← hxn]
      exact Option.isSome_iff_exists.2 ⟨_, h9⟩
    · rcases j8 f hf with ⟨g, hg, v, v1, v2, rfl⟩ | ⟨hf1, hf2⟩
      · obtain ⟨g1, g2, g3, g4, g5, g6, g7⟩ := hFT.fs g (lookF_mem (gs_look h2.st hus hT g hg).1).1
        exact ⟨g1, by show (1 : Int) ≤ v; omega, by show v ≤ 9999; omega, v2, g5, g6, g7⟩
      · obtain ⟨g, hg⟩ := Option.isSome_iff_exists.1 (hedone f hf1).2
        have hin : f.name ∈ (gsO L u).map (·.name) := by
          rw [hgn]
          exact (folders_mem h2.st hus hIT f.name).1 (List.mem_map.2 ⟨g, (lookF_mem hg).1, (lookF_mem hg).2⟩)
        obtain ⟨x, hx, hxn⟩ := List.mem_map.1 hin
        exact absurd hxn.symm (hf2 x hx)
  have hli := lies_left (S' := S') h.st hS j3 j5 hfit up pm
  have hn : nextM R = nx' := lies_next hli (by omega) k1
  have hst := store_left (S' := S') h.st hS j3 j5 hfit j1 k1 up pm (by omega)
  have hL : LeftS N R u S S' := ⟨hst, up, by rw [hn]; exact pm, by rw [hn]; exact hfit, j5, by rw [j4]; exact hw, j3⟩
  obtain ⟨S2, hD2⟩ := hL.desk
  obtain ⟨hfl, _, _, _⟩ := names_told hD2
  obtain ⟨hflT, _, hl60, _⟩ := names_told hDT
  obtain ⟨S8, hS8, _, hI2⟩ := take_all hst hus
  rw [hD2.tk] at hS8
  cases hS8
  have hnames : listS R u = listS L u := by
    refine names_same (listS_up (store_facts hst).1.2.2) (listS_up (store_facts h2.st).1.2.2) fun n => ?_
    constructor
    · intro hn9
      obtain ⟨x, hx, hxn, hsn⟩ := name_there hst hus hD2.tk hD2.wd hn9
      have hm := look_meta hst hD2.tk hx
      have hex : ∃ g ∈ S'.fs, g.name = n := Classical.byContradiction fun h9 => by
        have h8 := left_none hD hL hsn fun g hg e => h9 ⟨g, hg, e⟩
        rw [h8] at hm
        cases hm
      obtain ⟨g, hg, hgn2⟩ := hex
      rcases j8 g hg with ⟨y, hy, v, _, _, rfl⟩ | ⟨hf1, hf2⟩
      · rw [← hgn]
        exact List.mem_map.2 ⟨y, hy, hgn2⟩
      · obtain ⟨y, hy⟩ := Option.isSome_iff_exists.1 (hedone g hf1).2
        rw [← hgn2]
        exact (folders_mem h2.st hus hIT g.name).1 (List.mem_map.2 ⟨y, (lookF_mem hy).1, (lookF_mem hy).2⟩)
    · intro hn9
      rw [← hgn] at hn9
      obtain ⟨g, hg, rfl⟩ := List.mem_map.1 hn9
      obtain ⟨v, _, _, hv⟩ := j7 g hg
      have hgf := hL.fit.fs _ hv
      have hm : metaM R u g.name = some (v, g.next) := desk_folder hL.up hL.pm hv hgf
      have ho := old_meta hst hus (word_slash hgf.1)
      rw [show (⟨g.name, v, g.next, g.mails⟩ : FM).name = g.name from rfl, hm] at ho
      rw [old_look hD2.tk] at ho
      obtain ⟨y, hy⟩ := Option.isSome_iff_exists.1 ho
      exact (folders_mem hst hus hI2 g.name).1 (List.mem_map.2 ⟨y, (lookF_mem hy).1, (lookF_mem hy).2⟩)
  refine ⟨hst, .inr ⟨rfl, by rw [hfl, hnames], hflT, hl60, fun n hn9 => ?_⟩⟩
  rw [← hgn] at hn9
  obtain ⟨g, hg, rfl⟩ := List.mem_map.1 hn9
  obtain ⟨v, v1, _, hv⟩ := j7 g hg
  have hgl := (gs_look h2.st hus hT g hg).1
  obtain ⟨hgm, _⟩ := lookF_mem hgl
  obtain ⟨g1, g2, g3, g4, g5, g6, g7⟩ := hFT.fs g hgm
  have hri : Rise g.mails := rise_store h2.st hus hT hwT hgm
  have hfo := hL.fa hD hv hri
  refine ⟨short_size' g1, g.val, v, g.next, g.mails, ?_, by omega, fa_look h2.st hsu g1 hT hwT hgl, hfo⟩
  have h9 := sum_dropF hgl
  omega
end Go.Proofs.YthgbclipknfmjaaGreatDoor
namespace Go.Proofs.YthgbclipknfmjaaGreatDoor
open Go.ChangeShapes Go.WideShapes Go.ChangeAt Go.RowKit Go.Deep
set_option linter.unusedVariables false

def cellsB (L : List Nat) : List Value := L.map fun x => .int .u8 ((x : Nat) : Int)
theorem cellsB_length (L : List Nat) : (cellsB L).length = L.length := by simp [cellsB]
theorem cellsB_get (L : List Nat) (i : Nat) (h : i < L.length) : (cellsB L)[i]? = some (.int .u8 ((L.getD i 0 : Nat) : Int)) := by
  simp [cellsB, h]
theorem cellsB_one (L : List Nat) : ∀ u ∈ cellsB L, u.oneCell' = true := by
  intro u hu
  simp only [cellsB, List.mem_map] at hu
  obtain ⟨x, _, rfl⟩ := hu
  rfl
theorem infoB : (Tryz.prog.info? 5).map (fun i => (i.zero, i.size, i.bytes)) = some (some (.int .u8 0), 1, 1) := by kernel_rfl
end Go.Proofs.YthgbclipknfmjaaGreatDoor
namespace Go.Proofs.YthgbclipknfmjaaGreatDoor
open Go.ChangeShapes Go.WideShapes Go.ChangeAt Go.RowKit Go.Deep
set_option linter.unusedVariables false
set_option maxRecDepth 100000

/-- A block holds three cells, no more. -/
def NoMore (w : World) (P : Nat) : Prop := ∀ i, 3 ≤ i → w.cell? ⟨P, i, none⟩ = none
theorem NoMore.set {w : World} {P : Nat} (h : NoMore w P) (j : Nat) (hj : j < 3) (v : Value) : NoMore (w.setCell ⟨P, j, none⟩ v) P := fun i hi => by
  rw [World.cell?_setCell_other _ _ _ _ (fun e => by cases e; omega)]
  exact h i hi
theorem NoMore.drewN {w : World} {P : Nat} (h : NoMore w P) (n : Nat) : NoMore (w.drewN n) P := h
/-- A source at block P: its code, its place, its seed. -/
def Draw (w : World) (P : Nat) (ca : Option Addr) (n cc K : Nat) : Prop :=
  ∃ at_ seed : Nat, Box w P [.slice ca n cc, .int .i64 (at_ : Int), .int .i64 (seed : Int)] ∧ at_ ≤ K ∧ seed < 2147483648 ∧ NoMore w P
theorem turned_set {lo hi : Nat} (w : World) (p : Addr) (h1 : lo ≤ p.block) (h2 : p.block < hi) (u : Value) : Turned lo hi w (w.setCell p u) :=
  ⟨rfl, rfl, rfl, by simp, fun k hk hr => Below.heap_setCell _ _ _ _ (by intro e; omega)⟩
theorem turned_drewN {lo hi : Nat} {w w' : World} (h : Turned lo hi w w') (n : Nat) : Turned lo hi w (w'.drewN n) := ⟨h.os, h.tape, h.output, h.size, h.block⟩
theorem tmod_nat (a b : Nat) : Int.tmod (a : Int) (b : Int) = ((a % b : Nat) : Int) := by
  rw [Int.tmod_eq_emod_of_nonneg (by omega)]; simp
set_option maxHeartbeats 2000000 in
theorem drawByte (P n cc K : Nat) (ca : Option Addr) (C : List Nat) (w : World) (hC : C.length = n) (hn : n ≤ 1048577) (h8 : ∀ x ∈ C, x < 256) (hs : Src w ca (cellsB C)) (hP : 0 < n → ∀ a, ca = some a → a.block ≠ P) (hK : K ≤ 1000000000) (hx : Draw w P ca n cc K) :
    Calls Tryz.prog 126 #[.pointer (some ⟨P, 0, none⟩)] w fun e w' => ∃ x : Nat, e = .returned (.int .i64 (x : Int)) ∧ x < 256 ∧ Turned P (P + 1) w w' ∧ Draw w' P ca n cc (K + 1) := by
  obtain ⟨at_, seed, hbox, hat, hsd, hnm⟩ := hx
  have HNM : Hid (NoMore w P) := hnm
  clear hnm
  have HB : Hid (Box w P [.slice ca n cc, .int .i64 (at_ : Int), .int .i64 (seed : Int)]) := hbox
  have HC : Hid (C.length = n ∧ (∀ x ∈ C, x < 256) ∧ Src w ca (cellsB C) ∧ (0 < n → ∀ a, ca = some a → a.block ≠ P)) := ⟨hC, h8, hs, hP⟩
  obtain ⟨c0, c0f⟩ := hbox 0 _ rfl
  obtain ⟨c1, c1f⟩ := hbox 1 _ rfl
  obtain ⟨c2, c2f⟩ := hbox 2 _ rfl
  have T0 : Hid (Turned P (P + 1) w (w.setCell ⟨P, 1, none⟩ (.int .i64 ((at_ : Int) + 1)))) := turned_set w ⟨P, 1, none⟩ (by dsimp only; omega) (by dsimp only; omega) _
  have B1 : Hid (Box (w.setCell ⟨P, 1, none⟩ (.int .i64 ((at_ : Int) + 1))) P [.slice ca n cc, .int .i64 ((at_ : Int) + 1), .int .i64 (seed : Int)]) := hbox.set 1 _
  obtain ⟨d0, d0f⟩ := B1.out 0 _ rfl
  obtain ⟨d1, d1f⟩ := B1.out 1 _ rfl
  obtain ⟨d2, d2f⟩ := B1.out 2 _ rfl
  clear hC h8 hs hP hbox
  by_cases t1 : at_ < n
  · have hle : (at_ : Int) + 1 ≤ (n : Int) := by omega
    have hdec : decide ((at_ : Int) + 1 ≤ (n : Int)) = true := decide_eq_true hle
    obtain ⟨b, o, rfl, hcell⟩ : ∃ b o, ca = some ⟨b, o, none⟩ ∧ (w.setCell ⟨P, 1, none⟩ (.int .i64 ((at_ : Int) + 1))).cell? ⟨b, o + at_, none⟩ = some (.int .u8 ((C.getD at_ 0 : Nat) : Int)) := by
      rcases HC.out.2.2.1 with h | ⟨b, o, rfl, hc⟩
      · have h2 := cellsB_length C
        rw [h] at h2
        simp only [List.length_nil] at h2
        have := HC.out.1
        omega
      · refine ⟨b, o, rfl, ?_⟩
        have hne := HC.out.2.2.2 (by omega) _ rfl
        rw [World.cell?_setCell_other _ _ _ _ (fun e => hne (congrArg Addr.block e).symm), hc at_ (by rw [cellsB_length, HC.out.1]; exact t1), getD_some (cellsB_get C at_ (by rw [HC.out.1]; exact t1))]
    obtain ⟨y, hy⟩ : ∃ y, C.getD at_ 0 = y := ⟨_, rfl⟩
    rw [hy] at hcell
    have hy8 : y < 256 := by
      rw [← hy, List.getD_eq_getElem?_getD, List.getElem?_eq_getElem (by rw [HC.out.1]; exact t1)]
      exact HC.out.2.1 _ (List.getElem_mem _)
    obtain ⟨s2, hs2⟩ : ∃ s2, (seed * 31 + y + 7) % 2147483648 = s2 := ⟨_, rfl⟩
    have hs2l : s2 < 2147483648 := by rw [← hs2]; exact Nat.mod_lt _ (by omega)
    have R : Int.tmod ((seed : Int) * 31 + (y : Int) + 7) 2147483648 = (s2 : Int) := by
      have h9 := tmod_nat (seed * 31 + y + 7) 2147483648
      rw [hs2] at h9
      have e9 : (((seed * 31 + y + 7 : Nat)) : Int) = (seed : Int) * 31 + (y : Int) + 7 := by omega
      rw [e9] at h9
      exact h9
    have i0 : (0 : Int) ≤ (at_ : Int) + 1 - 1 := by omega
    have i1 : (at_ : Int) + 1 - 1 < (n : Int) := by omega
    have i2 : (at_ : Int) + 1 - 1 = (at_ : Int) := by omega
    have FACTS : Hid (∀ N W2, ((w.setCell ⟨P, 1, none⟩ (.int .i64 ((at_ : Int) + 1))).drewN N).setCell ⟨P, 2, none⟩ (.int .i64 (s2 : Int)) = W2 → Box W2 P [.slice (some ⟨b, o, none⟩) n cc, .int .i64 ((at_ : Int) + 1), .int .i64 (s2 : Int)] ∧ W2.cell? ⟨b, o + at_, none⟩ = some (.int .u8 (y : Int)) ∧ Turned P (P + 1) w W2) := fun N W2 e => by
      subst e
      have hne : b ≠ P := HC.out.2.2.2 (by omega) _ rfl
      refine ⟨Box.set (w := (w.setCell ⟨P, 1, none⟩ (.int .i64 ((at_ : Int) + 1))).drewN N) B1.out 2 _, ?_, (turned_drewN T0.out N).trans (turned_set _ ⟨P, 2, none⟩ (by dsimp only; omega) (by dsimp only; omega) _)⟩
      rw [World.cell?_setCell_other _ _ _ _ (fun e => hne (congrArg Addr.block e).symm)]
      exact hcell
    clear hs2 hy
    go_enter Tryz.func126, Tryz.ntmps126
    go_wp2_with fail
    go_quiet (fail)
    go_wp2_with fail
    go_region
    all_goals go_wp2_with fail
    all_goals
      generalize hW : World.setCell (World.drewN _ _) _ _ = W2
      obtain ⟨g1, g2, g3⟩ := FACTS.out _ _ hW
      have G1 : Hid (Box W2 P [.slice (some ⟨b, o, none⟩) n cc, .int .i64 ((at_ : Int) + 1), .int .i64 (s2 : Int)]) := g1
      have G3 : Hid (Turned P (P + 1) w W2) := g3
      have G4 : Hid (NoMore W2 P) := by show NoMore _ _; rw [← hW]; exact NoMore.set ((NoMore.set HNM.out 1 (by omega) _).drewN _) 2 (by omega) _
      obtain ⟨f0, _⟩ := g1 0 _ rfl
      obtain ⟨f1, _⟩ := g1 1 _ rfl
      clear hW g1 g3 c0 c1 c2 d0 d1 d2 c0f c1f c2f d0f d1f d2f hcell
      go_quiet (fail)
      go_wp2_with fail
      go_ret
      exact ⟨y, rfl, hy8, turned_drewN G3.out _, at_ + 1, s2, G1.out, by omega, hs2l, G4.out⟩
  have hle : ¬ (at_ : Int) + 1 ≤ (n : Int) := by omega
  have hdec : decide ((at_ : Int) + 1 ≤ (n : Int)) = false := decide_eq_false hle
  by_cases t2 : (3000 : Int) < (at_ : Int) + 1
  · go_enter Tryz.func126, Tryz.ntmps126
    go_wp2_with fail
    go_quiet (fail)
    go_wp2_with fail
    go_ret
    exact ⟨0, rfl, by omega, turned_drewN T0.out _, at_ + 1, seed, B1.out, by omega, hsd, (NoMore.set HNM.out 1 (by omega) _).drewN _⟩
  obtain ⟨s2, hs2⟩ : ∃ s2, (seed * 1103515245 + 12345) % 2147483648 = s2 := ⟨_, rfl⟩
  have hs2l : s2 < 2147483648 := by rw [← hs2]; exact Nat.mod_lt _ (by omega)
  have R : Int.tmod ((seed : Int) * 1103515245 + 12345) 2147483648 = (s2 : Int) := by
    have h9 := tmod_nat (seed * 1103515245 + 12345) 2147483648
    rw [hs2] at h9
    have e9 : (((seed * 1103515245 + 12345 : Nat)) : Int) = (seed : Int) * 1103515245 + 12345 := by omega
    rw [e9] at h9
    exact h9
  obtain ⟨x, hx9⟩ : ∃ x, s2 / 65536 % 256 = x := ⟨_, rfl⟩
  have hxl : x < 256 := by rw [← hx9]; exact Nat.mod_lt _ (by omega)
  have Q : (s2 : Int) / 65536 % 256 = (x : Int) := by rw [← hx9]; omega
  clear hs2 hx9
  go_enter Tryz.func126, Tryz.ntmps126
  go_wp2_with fail
  go_quiet (fail)
  go_wp2_with fail
  go_ret
  exact ⟨x, by show Ending.returned (.int .i64 ((s2 : Int) / 65536 % 256)) = _; rw [Q], hxl, (turned_drewN T0.out _).trans (turned_set _ ⟨P, 2, none⟩ (by dsimp only; omega) (by dsimp only; omega) _), at_ + 1, s2, Box.set (w := (w.setCell ⟨P, 1, none⟩ (.int .i64 ((at_ : Int) + 1))).drewN _) B1.out 2 _, by omega, hs2l, NoMore.set ((NoMore.set HNM.out 1 (by omega) _).drewN _) 2 (by omega) _⟩

theorem Src.turned {w w' : World} {lo hi : Nat} {a : Option Addr} {xs : List Value} (h : Src w a xs) (ht : Turned lo hi w w') (hP : 0 < xs.length → ∀ ad, a = some ad → ad.block < lo ∨ hi ≤ ad.block) : Src w' a xs := by
  rcases h with h | ⟨b, o, rfl, hc⟩
  · exact .inl h
  · refine .inr ⟨b, o, rfl, fun j hj => ?_⟩
    have h1 := hc j hj
    have hlt := World.block_lt_of_cell? _ _ h1
    dsimp only at hlt
    rw [← h1]
    exact World.cell?_of_block (a := ⟨b, o + j, none⟩) (ht.block b hlt (hP (by omega) _ rfl))
/-- A source with its code. -/
def DrawOK (w : World) (P : Nat) (ca : Option Addr) (n cc K : Nat) (C : List Nat) : Prop :=
  Draw w P ca n cc K ∧ C.length = n ∧ n ≤ 1048577 ∧ (∀ x ∈ C, x < 256) ∧ Src w ca (cellsB C) ∧ (0 < n → ∀ a, ca = some a → a.block ≠ P)
theorem DrawOK.byte {w : World} {P n cc K : Nat} {ca : Option Addr} {C : List Nat} (h : DrawOK w P ca n cc K C) (hK : K ≤ 1000000000) :
    Calls Tryz.prog 126 #[.pointer (some ⟨P, 0, none⟩)] w fun e w' => ∃ x : Nat, e = .returned (.int .i64 (x : Int)) ∧ x < 256 ∧ Turned P (P + 1) w w' ∧ DrawOK w' P ca n cc (K + 1) C := by
  obtain ⟨h1, h2, h3, h4, h5, h6⟩ := h
  refine (drawByte P n cc K ca C w h2 h3 h4 h5 h6 hK h1).mono ?_
  rintro e w' ⟨x, rfl, hx, ht, hd⟩
  exact ⟨x, rfl, hx, ht, hd, h2, h3, h4, h5.turned ht (fun hl ad e => by have := h6 (by rw [cellsB_length] at hl; omega) ad e; omega), h6⟩
set_option maxHeartbeats 1000000 in
theorem drawNext (P n cc K m : Nat) (ca : Option Addr) (C : List Nat) (w : World) (hm : 1 ≤ m) (hm2 : m ≤ 1000000) (hK : K ≤ 999999990) (h : DrawOK w P ca n cc K C) :
    Calls Tryz.prog 75 #[.pointer (some ⟨P, 0, none⟩), .int .i64 (m : Int)] w fun e w' => ∃ x : Nat, e = .returned (.int .i64 (x : Int)) ∧ x < m ∧ Turned P (P + 1) w w' ∧ DrawOK w' P ca n cc (K + 3) C := by
  have mono : ∀ {w9 : World} {K1 K2 : Nat}, K1 ≤ K2 → DrawOK w9 P ca n cc K1 C → DrawOK w9 P ca n cc K2 C := fun hk ⟨⟨a, s, h1, h2, h3⟩, h4⟩ => ⟨⟨a, s, h1, by omega, h3⟩, h4⟩
  have MO : Hid (∀ {w9 : World} {K1 K2 : Nat}, K1 ≤ K2 → DrawOK w9 P ca n cc K1 C → DrawOK w9 P ca n cc K2 C) := mono
  have H : Hid (DrawOK w P ca n cc K C) := h
  clear mono h
  by_cases t1 : (m : Int) ≤ 1
  · go_enter Tryz.func75, Tryz.ntmps75
    go_wp2_with fail
    go_ret
    exact ⟨0, rfl, by omega, Turned.of_below (Below.refl _ _), MO.out (by omega) H.out⟩
  have hmz : ¬ (m : Int) = 0 := by omega
  have hmz2 : ¬ m = 0 := by omega
  by_cases t2 : (m : Int) ≤ 256
  · go_enter Tryz.func75, Tryz.ntmps75
    go_wp2_with fail
    refine (H.out.byte (by omega)).mono ?_
    rintro e w1 ⟨x, rfl, hx, ht, hd⟩
    have R : Int.tmod (x : Int) (m : Int) = ((x % m : Nat) : Int) := tmod_nat x m
    obtain ⟨y, hy⟩ : ∃ y, x % m = y := ⟨_, rfl⟩
    rw [hy] at R
    have hyl : Hid (y < m) := by show y < m; rw [← hy]; exact Nat.mod_lt _ (by omega)
    have TT : Hid (Turned P (P + 1) w w1 ∧ DrawOK w1 P ca n cc (K + 1) C) := ⟨ht, hd⟩
    clear ht hd hy
    go_wp2_with fail
    go_ret
    exact ⟨y, rfl, hyl.out, TT.out.1, MO.out (by omega) TT.out.2⟩
  go_enter Tryz.func75, Tryz.ntmps75
  go_wp2_with fail
  refine (H.out.byte (by omega)).mono ?_
  rintro e w1 ⟨x1, rfl, hx1, ht1, hd1⟩
  have T1 : Hid (Turned P (P + 1) w w1 ∧ DrawOK w1 P ca n cc (K + 1) C) := ⟨ht1, hd1⟩
  clear ht1 hd1
  go_wp2_with fail
  refine (T1.out.2.byte (by omega)).mono ?_
  rintro e w2 ⟨x2, rfl, hx2, ht2, hd2⟩
  have T2 : Hid (Turned P (P + 1) w w2 ∧ DrawOK w2 P ca n cc (K + 1 + 1) C) := ⟨T1.out.1.trans ht2, hd2⟩
  clear ht2 hd2
  go_wp2_with fail
  refine (T2.out.2.byte (by omega)).mono ?_
  rintro e w3 ⟨x3, rfl, hx3, ht3, hd3⟩
  have T3 : Hid (Turned P (P + 1) w w3 ∧ DrawOK w3 P ca n cc (K + 1 + 1 + 1) C) := ⟨T2.out.1.trans ht3, hd3⟩
  clear ht3 hd3
  have R : Int.tmod ((x1 : Int) * 65536 + (x2 : Int) * 256 + (x3 : Int)) (m : Int) = (((x1 * 65536 + x2 * 256 + x3) % m : Nat) : Int) := by
    have h9 := tmod_nat (x1 * 65536 + x2 * 256 + x3) m
    have e9 : (((x1 * 65536 + x2 * 256 + x3 : Nat)) : Int) = (x1 : Int) * 65536 + (x2 : Int) * 256 + (x3 : Int) := by omega
    rw [e9] at h9
    exact h9
  obtain ⟨y, hy⟩ : ∃ y, (x1 * 65536 + x2 * 256 + x3) % m = y := ⟨_, rfl⟩
  rw [hy] at R
  have hyl : Hid (y < m) := by show y < m; rw [← hy]; exact Nat.mod_lt _ (by omega)
  clear hy
  go_wp2_with fail
  go_ret
  exact ⟨y, rfl, hyl.out, T3.out.1, T3.out.2⟩
set_option maxHeartbeats 1000000 in
theorem drawPick (P n cc K : Nat) (ca : Option Addr) (C : List Nat) (b o l c : Nat) (L : List ByteArray) (w : World) (hL : L.length = l) (hl : 1 ≤ l) (hl2 : l ≤ 1000) (hK : K ≤ 999999990) (hb : b ≠ P) (hs : Src w (some ⟨b, o, none⟩) (cellsS L)) (h : DrawOK w P ca n cc K C) :
    Calls Tryz.prog 77 #[.pointer (some ⟨P, 0, none⟩), .slice (some ⟨b, o, none⟩) l c] w fun e w' => ∃ s : ByteArray, e = .returned (.string s) ∧ s ∈ L ∧ Turned P (P + 1) w w' ∧ DrawOK w' P ca n cc (K + 3) C := by
  have H : Hid (DrawOK w P ca n cc K C) := h
  have HS : Hid (Src w (some ⟨b, o, none⟩) (cellsS L) ∧ L.length = l) := ⟨hs, hL⟩
  have hl0 : ((l : Int) == 0) = false := by simp; omega
  clear h hs hL
  go_enter Tryz.func77, Tryz.ntmps77
  go_wp2_with fail
  refine (drawNext P n cc K l ca C _ hl (by omega) hK H.out).mono ?_
  rintro e w1 ⟨x, rfl, hx, ht, hd⟩
  have T1 : Hid (Turned P (P + 1) w w1 ∧ DrawOK w1 P ca n cc (K + 3) C) := ⟨ht, hd⟩
  obtain ⟨b', o', y, e', yc, hy⟩ := srcS (HS.out.1.turned ht (fun _ ad e => by cases e; dsimp only; omega)) (i := x) (by rw [HS.out.2]; exact hx)
  cases e'
  have HY : Hid (y ∈ L) := by
    rw [← hy.out, List.getD_eq_getElem?_getD, List.getElem?_eq_getElem (by rw [HS.out.2]; exact hx)]
    exact List.getElem_mem _
  have i0 : (0 : Int) ≤ (x : Int) := by omega
  have i1 : (x : Int) < (l : Int) := by omega
  clear ht hd
  go_wp2_with fail
  go_ret
  exact ⟨y, rfl, HY.out, T1.out.1, T1.out.2⟩
theorem none_new {w : World} (vs : Array Value) (t : TypeId) (i : Nat) (hi : vs.size ≤ i) : (w.alloc (.cells vs t)).cell? ⟨w.heap.size, i, none⟩ = none := by
  rw [World.cell?_alloc_at _ _ _ _ rfl]
  exact Array.getElem?_eq_none hi
theorem NoMore.below {w w' : World} {P : Nat} (h : NoMore w P) (hP : P < w.heap.size) (hb : Below w.heap.size w w') : NoMore w' P := fun i hi => by
  rw [← h i hi]
  exact World.cell?_of_block (a := ⟨P, i, none⟩) (hb.block P hP)
set_option maxHeartbeats 1000000 in
theorem l00Source (ca : Option Addr) (n cc : Nat) (C : List Nat) (w : World) (hC : C.length = n) (hn : n ≤ 1048577) (h8 : ∀ x ∈ C, x < 256) (hs : Src w ca (cellsB C)) :
    Calls Tryz.prog 32 #[.slice ca n cc] w fun e w' => e = .returned (.pointer (some ⟨w.heap.size, 0, none⟩)) ∧ w'.heap.size = w.heap.size + 1 ∧ Below w.heap.size w w' ∧ DrawOK w' w.heap.size ca n cc 0 C := by
  obtain ⟨s, hs9⟩ : ∃ s, n % 1000 = s := ⟨_, rfl⟩
  have hsl : s < 1000 := by rw [← hs9]; exact Nat.mod_lt _ (by omega)
  have R : Int.tmod (n : Int) 1000 = (s : Int) := by rw [← hs9]; exact tmod_nat n 1000
  have HC : Hid (C.length = n ∧ (∀ x ∈ C, x < 256) ∧ Src w ca (cellsB C)) := ⟨hC, h8, hs⟩
  clear hC h8 hs hs9
  go_enter Tryz.func32, Tryz.ntmps32
  go_wp2_with fail
  go_ret
  refine ⟨rfl, by simp, (Below.refl _ _).alloc (Nat.le_refl _) _, ⟨0, s, Box.new rfl, by omega, by omega, fun i hi => none_new _ _ i hi⟩, HC.out.1, hn, HC.out.2.1, HC.out.2.2.below ((Below.refl _ _).alloc (Nat.le_refl _) _), fun h0 a e => ?_⟩
  rcases HC.out.2.2 with h | ⟨b, o, e2, hc⟩
  · have h2 := cellsB_length C
    rw [h] at h2
    simp only [List.length_nil] at h2
    have := HC.out.1
    omega
  · rw [e2] at e
    cases e
    have h1 := World.block_lt_of_cell? _ _ (hc 0 (by rw [cellsB_length, HC.out.1]; omega))
    dsimp only at h1 ⊢
    omega
theorem DrawOK.below {w w' : World} {P n cc K : Nat} {ca : Option Addr} {C : List Nat} (h : DrawOK w P ca n cc K C) (hb : Below w.heap.size w w') : DrawOK w' P ca n cc K C := by
  obtain ⟨⟨a, s, h1, h2, h3⟩, h4, h5, h6, h7, h8⟩ := h
  exact ⟨⟨a, s, h1.below hb, h2, h3.1, h3.2.below (World.block_lt_of_cell? _ _ (h1 0 _ rfl).1) hb⟩, h4, h5, h6, h7.below hb, h8⟩
/-- A list of texts lies elsewhere than the source. -/
theorem DrawOK.apart {w : World} {P n cc K : Nat} {ca : Option Addr} {C : List Nat} (h : DrawOK w P ca n cc K C) {b o : Nat} {s : ByteArray} (hc : w.cell? ⟨b, o, none⟩ = some (.string s)) : b ≠ P := fun e => by
  subst e
  obtain ⟨⟨a, z, h1, _, _, h4⟩, _⟩ := h
  by_cases ho : 3 ≤ o
  · rw [h4 o ho] at hc
    cases hc
  · match o, ho with
    | 0, _ => rw [(h1 0 _ rfl).1] at hc; cases hc
    | 1, _ => rw [(h1 1 _ rfl).1] at hc; cases hc
    | 2, _ => rw [(h1 2 _ rfl).1] at hc; cases hc
    | k + 3, ho => exact absurd (by omega) ho
theorem DrawOK.lt {w : World} {P n cc K : Nat} {ca : Option Addr} {C : List Nat} (h : DrawOK w P ca n cc K C) : P < w.heap.size := by
  obtain ⟨⟨a, s, h1, h2, h3⟩, h4⟩ := h
  exact World.block_lt_of_cell? _ _ (h1 0 _ rfl).1
theorem DrawOK.grown {w w' : World} {P n cc K : Nat} {ca : Option Addr} {C : List Nat} {row : Option Nat} (h : DrawOK w P ca n cc K C) (hg : w.grownBy w' row) (hP : row ≠ some P) (hc : 0 < n → ∀ a, ca = some a → row ≠ some a.block) : DrawOK w' P ca n cc K C := by
  obtain ⟨⟨a, s, h1, h2, h3⟩, h4, h5, h6, h7, h8⟩ := h
  refine ⟨⟨a, s, h1.grown hg hP, h2, h3.1, fun i hi => by rw [← h3.2 i hi]; exact World.cell?_of_block (a := ⟨P, i, none⟩) (hg.block P (World.block_lt_of_cell? _ _ (h1 0 _ rfl).1) (fun e => hP e.symm))⟩, h4, h5, h6, ?_, h8⟩
  rcases h7 with h7 | ⟨b, o, rfl, h9⟩
  · exact .inl h7
  · refine .inr ⟨b, o, rfl, fun j hj => ?_⟩
    have h10 := h9 j hj
    rw [← h10]
    exact World.cell?_of_block (a := ⟨b, o + j, none⟩) (hg.block b (World.block_lt_of_cell? _ _ h10) (fun e => hc (by rw [cellsB_length, h4] at hj; omega) _ rfl e.symm))
theorem src_list {w : World} {L : List ByteArray} {B ty : Nat} (hB : B = w.heap.size) (cs : Array Value) (hcs : cs.toList = cellsS L) : Src (w.alloc (.cells cs ty)) (some ⟨B, 0, none⟩) (cellsS L) := by
  obtain rfl : cs = (cellsS L).toArray := by rw [← hcs]
  have hb : Box (w.alloc (.cells (cellsS L).toArray ty)) B (cellsS L) := Box.new hB
  refine .inr ⟨B, 0, rfl, fun j hj => ?_⟩
  rw [Nat.zero_add]
  exact (hb j _ (by rw [List.getD_eq_getElem?_getD, List.getElem?_eq_getElem hj]; rfl)).1
theorem DrawOK.more {w : World} {P n cc K1 K2 : Nat} {ca : Option Addr} {C : List Nat} (h : DrawOK w P ca n cc K1 C) (hk : K1 ≤ K2) : DrawOK w P ca n cc K2 C := by
  obtain ⟨⟨a, s, h1, h2, h3⟩, h4⟩ := h
  exact ⟨⟨a, s, h1, by omega, h3⟩, h4⟩
end Go.Proofs.YthgbclipknfmjaaGreatDoor
namespace Go.Proofs.YthgbclipknfmjaaGreatDoor
open Go.ChangeShapes Go.WideShapes Go.ChangeAt Go.RowKit Go.Deep Go.Lib
set_option linter.unusedVariables false
set_option linter.unusedSimpArgs false
set_option maxRecDepth 100000

def drawUs : List ByteArray := [⟨#[97, 110, 110]⟩, ⟨#[98, 111, 98]⟩]
theorem users_are : ∀ s ∈ drawUs, s = annT ∨ s = bobT := by
  intro s hs
  simp [drawUs] at hs
  exact hs
def drawFs : List ByteArray := [⟨#[105, 110, 98, 111, 120]⟩, ⟨#[105, 110, 98, 111, 120]⟩, ⟨#[119, 111, 114, 107]⟩, ⟨#[111, 108, 100]⟩]
theorem folds_are : ∀ s ∈ drawFs, FoldN s := by
  intro s hs
  simp [drawFs] at hs
  exact hs
set_option maxHeartbeats 2000000 in
theorem userDr (P n cc K : Nat) (ca : Option Addr) (C : List Nat) (w : World) (hK : K ≤ 999000000) (h : DrawOK w P ca n cc K C) :
    Calls Tryz.prog 34 #[.pointer (some ⟨P, 0, none⟩)] w fun e w' => ∃ s : ByteArray, e = .returned (.string s) ∧ (s = annT ∨ s = bobT) ∧ Turned P (P + 1) w w' ∧ DrawOK w' P ca n cc (K + 3) C := by
  have H : Hid (DrawOK w P ca n cc K C) := h
  have PL : Hid (P < w.heap.size) := h.lt
  clear h
  go_enter Tryz.func34, Tryz.ntmps34
  go_wp2_with fail
  have B4 : Hid (Below w.heap.size w (w.alloc (.cells #[.string ⟨#[97, 110, 110]⟩, .string ⟨#[98, 111, 98]⟩] 9))) := (Below.refl _ _).alloc (Nat.le_refl _) _
  refine (drawPick P n cc K ca C w.heap.size 0 2 2 drawUs _ rfl (by omega) (by omega) (by omega) (by have := PL.out; omega) (src_list rfl _ rfl) (H.out.below B4.out)).mono ?_
  rintro e w1 ⟨s, rfl, hs, ht, hd⟩
  have T1 : Hid (Turned P (P + 1) w w1 ∧ DrawOK w1 P ca n cc (K + 3) C ∧ (s = annT ∨ s = bobT)) := ⟨(Turned.of_below B4.out).trans ht, hd, users_are s hs⟩
  clear ht hd hs
  go_wp2_with fail
  go_ret
  exact ⟨s, rfl, T1.out.2.2, T1.out.1, T1.out.2.1⟩
set_option maxHeartbeats 2000000 in
theorem folderDr (P n cc K : Nat) (ca : Option Addr) (C : List Nat) (w : World) (hK : K ≤ 999000000) (h : DrawOK w P ca n cc K C) :
    Calls Tryz.prog 35 #[.pointer (some ⟨P, 0, none⟩)] w fun e w' => ∃ s : ByteArray, e = .returned (.string s) ∧ FoldN s ∧ Turned P (P + 1) w w' ∧ DrawOK w' P ca n cc (K + 3) C := by
  have H : Hid (DrawOK w P ca n cc K C) := h
  have PL : Hid (P < w.heap.size) := h.lt
  clear h
  go_enter Tryz.func35, Tryz.ntmps35
  go_wp2_with fail
  have B4 : Hid (Below w.heap.size w (w.alloc (.cells #[.string ⟨#[105, 110, 98, 111, 120]⟩, .string ⟨#[105, 110, 98, 111, 120]⟩, .string ⟨#[119, 111, 114, 107]⟩, .string ⟨#[111, 108, 100]⟩] 9))) := (Below.refl _ _).alloc (Nat.le_refl _) _
  refine (drawPick P n cc K ca C w.heap.size 0 4 4 drawFs _ rfl (by omega) (by omega) (by omega) (by have := PL.out; omega) (src_list rfl _ rfl) (H.out.below B4.out)).mono ?_
  rintro e w1 ⟨s, rfl, hs, ht, hd⟩
  have T1 : Hid (Turned P (P + 1) w w1 ∧ DrawOK w1 P ca n cc (K + 3) C ∧ FoldN s) := ⟨(Turned.of_below B4.out).trans ht, hd, folds_are s hs⟩
  clear ht hd hs
  go_wp2_with fail
  go_ret
  exact ⟨s, rfl, T1.out.2.2, T1.out.1, T1.out.2.1⟩
def drawTs : List ByteArray := [⟨#[83, 117, 98, 106, 101, 99, 116, 58, 32, 111, 110, 101, 10, 10, 98, 111, 100, 121]⟩, ⟨#[83, 117, 98, 106, 101, 99, 116, 58, 32, 116, 119, 111, 10, 70, 114, 111, 109, 58, 32, 97, 110, 110, 10, 10]⟩, ⟨#[10]⟩, ⟨#[10, 98, 111, 100, 121, 10, 109, 111, 114, 101]⟩, ⟨#[110, 111, 32, 104, 101, 97, 100]⟩, ⟨#[]⟩]
theorem texts_small : ∀ s ∈ drawTs, s.size ≤ 85 := by
  intro s hs
  simp [drawTs] at hs
  rcases hs with rfl | rfl | rfl | rfl | rfl | rfl <;> decide
set_option maxHeartbeats 2000000 in
theorem mailTextDr (P n cc K : Nat) (ca : Option Addr) (C : List Nat) (w : World) (hK : K ≤ 999000000) (h : DrawOK w P ca n cc K C) :
    Calls Tryz.prog 102 #[.pointer (some ⟨P, 0, none⟩)] w fun e w' => ∃ s : ByteArray, e = .returned (.string s) ∧ s.size ≤ 85 ∧ Turned P (P + 1) w w' ∧ DrawOK w' P ca n cc (K + 3) C := by
  have H : Hid (DrawOK w P ca n cc K C) := h
  have PL : Hid (P < w.heap.size) := h.lt
  clear h
  go_enter Tryz.func102, Tryz.ntmps102
  go_wp2_with fail
  have B4 : Hid (Below w.heap.size w (w.alloc (.cells #[.string ⟨#[83, 117, 98, 106, 101, 99, 116, 58, 32, 111, 110, 101, 10, 10, 98, 111, 100, 121]⟩, .string ⟨#[83, 117, 98, 106, 101, 99, 116, 58, 32, 116, 119, 111, 10, 70, 114, 111, 109, 58, 32, 97, 110, 110, 10, 10]⟩, .string ⟨#[10]⟩, .string ⟨#[10, 98, 111, 100, 121, 10, 109, 111, 114, 101]⟩, .string ⟨#[110, 111, 32, 104, 101, 97, 100]⟩, .string ⟨#[]⟩] 9))) := (Below.refl _ _).alloc (Nat.le_refl _) _
  refine (drawPick P n cc K ca C w.heap.size 0 6 6 drawTs _ rfl (by omega) (by omega) (by omega) (by have := PL.out; omega) (src_list rfl _ rfl) (H.out.below B4.out)).mono ?_
  rintro e w1 ⟨s, rfl, hs, ht, hd⟩
  have T1 : Hid (Turned P (P + 1) w w1 ∧ DrawOK w1 P ca n cc (K + 3) C ∧ s.size ≤ 85) := ⟨(Turned.of_below B4.out).trans ht, hd, texts_small s hs⟩
  clear ht hd hs
  go_wp2_with fail
  go_ret
  exact ⟨s, rfl, T1.out.2.2, T1.out.1, T1.out.2.1⟩
/-- Where the draw of a store stands. -/
def DW (P n cc K : Nat) (ca : Option Addr) (C : List Nat) (b o : Nat) (L : List PM) (w w' : World) : Prop := Turned P (P + 1) w w' ∧ DrawOK w' P ca n cc K C ∧ Src w' (some ⟨b, o, none⟩) (cellsP L)
theorem src_first {w : World} {b o : Nat} {L : List PM} (hs : Src w (some ⟨b, o, none⟩) (cellsP L)) (hne : L ≠ []) : ∃ s, w.cell? ⟨b, o, none⟩ = some (.string s) := by
  match L, hne with
  | p :: R, _ =>
    rcases hs with h | ⟨b', o', e, hc⟩
    · cases h
    · cases e
      have h0 := hc 0 (by rw [cellsP_length]; simp)
      exact ⟨_, h0⟩
theorem DW.step {P n cc K1 K2 : Nat} {ca : Option Addr} {C : List Nat} {b o : Nat} {L : List PM} {w wi wj : World} (h : DW P n cc K1 ca C b o L w wi) (hne : L ≠ []) (ht : Turned P (P + 1) wi wj) (hd : DrawOK wj P ca n cc K2 C) : DW P n cc K2 ca C b o L w wj := by
  obtain ⟨h1, h2, h3⟩ := h
  obtain ⟨s, hc⟩ := src_first h3 hne
  have hb := h2.apart hc
  exact ⟨h1.trans ht, hd, h3.turned ht (fun _ ad e => by cases e; show b < P ∨ P + 1 ≤ b; omega)⟩
theorem Drawn.ne {k : Nat} {L : List PM} (h : Drawn k L) : L ≠ [] := fun e => by
  have h1 := (h.us annT (by decide)).2 (.inl rfl)
  rw [e] at h1
  cases h1
/-- What the work leaves. -/
def WorkT (k : Nat) (L : List PM) (P : Nat) (w w' : World) (v : Value) : Prop := ∃ a2 n2 c2 L', v = .slice a2 n2 c2 ∧ LenC L' n2 c2 ∧ Src w' a2 (cellsP L') ∧ (Drawn (k + 1) L' ∧ nextM L ≤ nextM L') ∧ Turned P (P + 1) w w'
theorem DW.work {k P n cc K : Nat} {ca : Option Addr} {C : List Nat} {b o : Nat} {L : List PM} {w wi w' : World} {v : Value} (h : DW P n cc K ca C b o L w wi) (hw : WorkD k L wi w' v) {K2 : Nat} (hK : K ≤ K2) : WorkT k L P w w' v ∧ DrawOK w' P ca n cc K2 C := by
  obtain ⟨a2, n2, c2, L', rfl, h1, h2, h3, h4⟩ := hw
  exact ⟨⟨a2, n2, c2, L', rfl, h1, h2, h3, h.1.trans (Turned.of_below h4)⟩, (h.2.1.below h4).more hK⟩
set_option maxHeartbeats 8000000 in
theorem workDr (P n cc K k : Nat) (ca : Option Addr) (C : List Nat) (b o m c : Nat) (L : List PM) (w : World) (hK : K ≤ 990000000) (h : DrawOK w P ca n cc K C) (hD : Drawn k L) (hL : LenC L m c) (hs : Src w (some ⟨b, o, none⟩) (cellsP L)) :
    Calls Tryz.prog 53 #[.pointer (some ⟨P, 0, none⟩), .slice (some ⟨b, o, none⟩) m c] w fun e w' => ∃ v, e = .returned v ∧ WorkT k L P w w' v ∧ DrawOK w' P ca n cc (K + 30) C := by
  have HD : Hid (Drawn k L ∧ LenC L m c ∧ L ≠ []) := ⟨hD, hL, hD.ne⟩
  have S0' : Hid (DW P n cc K ca C b o L w w) := ⟨Turned.of_below (Below.refl _ _), h, hs⟩
  clear h hD hL hs
  go_enter Tryz.func53, Tryz.ntmps53
  go_wp2_with fail
  refine (userDr P n cc K ca C w (by omega) S0'.out.2.1).mono ?_
  rintro e w1 ⟨u, rfl, hu, ht1, hd1⟩
  have S1 : Hid (DW P n cc (K + 3) ca C b o L w w1) := S0'.out.step HD.out.2.2 ht1 hd1
  have HU : Hid (u = annT ∨ u = bobT) := hu
  clear ht1 hd1 hu S0'
  go_wp2_with fail
  refine (folderDr P n cc (K + 3) ca C w1 (by omega) S1.out.2.1).mono ?_
  rintro e w2 ⟨f, rfl, hf, ht2, hd2⟩
  have S2 : Hid (DW P n cc (K + 6) ca C b o L w w2) := S1.out.step HD.out.2.2 ht2 hd2
  have HF : Hid (FoldN f) := hf
  clear ht2 hd2 hf S1
  go_wp2_with fail
  refine (drawNext P n cc (K + 6) 9 ca C w2 (by omega) (by omega) (by omega) S2.out.2.1).mono ?_
  rintro e w3 ⟨x, rfl, hx, ht3, hd3⟩
  have S3 : Hid (DW P n cc (K + 9) ca C b o L w w3) := S2.out.step HD.out.2.2 ht3 hd3
  clear ht3 hd3 S2
  have hcase : x = 0 ∨ x = 1 ∨ x = 2 ∨ x = 3 ∨ x = 4 ∨ x = 5 ∨ 6 ≤ x := by omega
  rcases hcase with rfl | rfl | rfl | rfl | rfl | rfl | h6
  · go_wp2_with fail
    refine (mkD b o m c k L HD.out.1 HD.out.2.1 u f HU.out HF.out w3 S3.out.2.2).mono ?_
    rintro e w4 ⟨v, q, rfl, hw⟩
    have E4 : Hid (WorkT k L P w w4 v ∧ DrawOK w4 P ca n cc (K + 30) C) := S3.out.work hw (by omega)
    clear hw
    go_wp2_with fail
    go_ret
    exact ⟨v, rfl, E4.out⟩
  · go_wp2_with fail
    refine (dropD b o m c k L HD.out.1 HD.out.2.1 u f HU.out (fold_short HF.out) w3 S3.out.2.2).mono ?_
    rintro e w4 ⟨v, q, rfl, hw⟩
    have E4 : Hid (WorkT k L P w w4 v ∧ DrawOK w4 P ca n cc (K + 30) C) := S3.out.work hw (by omega)
    clear hw
    go_wp2_with fail
    go_ret
    exact ⟨v, rfl, E4.out⟩
  · go_wp2_with fail
    refine (folderDr P n cc (K + 9) ca C w3 (by omega) S3.out.2.1).mono ?_
    rintro e w5 ⟨tf, rfl, hf5, ht5, hd5⟩
    have S5 : Hid (DW P n cc (K + 12) ca C b o L w w5) := S3.out.step HD.out.2.2 ht5 hd5
    have HF5 : Hid (FoldN tf) := hf5
    clear ht5 hd5 hf5 S3
    go_wp2_with fail
    refine (rnD b o m c k L HD.out.1 HD.out.2.1 u f tf HU.out (fold_short HF.out) HF5.out w5 S5.out.2.2).mono ?_
    rintro e w4 ⟨v, q, rfl, hw⟩
    have E4 : Hid (WorkT k L P w w4 v ∧ DrawOK w4 P ca n cc (K + 30) C) := S5.out.work hw (by omega)
    clear hw
    go_wp2_with fail
    go_ret
    exact ⟨v, rfl, E4.out⟩
  · go_wp2_with fail
    refine (drawNext P n cc (K + 9) 4 ca C w3 (by omega) (by omega) (by omega) S3.out.2.1).mono ?_
    rintro e w5 ⟨y, rfl, hy, ht5, hd5⟩
    have S5 : Hid (DW P n cc (K + 12) ca C b o L w w5) := S3.out.step HD.out.2.2 ht5 hd5
    clear ht5 hd5 S3
    go_wp2_with fail
    refine (drawNext P n cc (K + 12) 4 ca C w5 (by omega) (by omega) (by omega) S5.out.2.1).mono ?_
    rintro e w6 ⟨z, rfl, hz, ht6, hd6⟩
    have S6 : Hid (DW P n cc (K + 15) ca C b o L w w6) := S5.out.step HD.out.2.2 ht6 hd6
    clear ht6 hd6 S5
    go_wp2_with fail
    refine (flD b o m c k L HD.out.1 HD.out.2.1 u f _ (z : Int) HU.out (fold_short HF.out) (by omega) (by omega) w6 S6.out.2.2).mono ?_
    rintro e w4 ⟨v, q, rfl, hw⟩
    have E4 : Hid (WorkT k L P w w4 v ∧ DrawOK w4 P ca n cc (K + 30) C) := S6.out.work hw (by omega)
    clear hw
    go_wp2_with fail
    go_ret
    exact ⟨v, rfl, E4.out⟩
  · go_wp2_with fail
    refine (exD b o m c k L HD.out.1 HD.out.2.1 u f HU.out (fold_short HF.out) w3 S3.out.2.2).mono ?_
    rintro e w4 ⟨v, x, q, rfl, hw⟩
    have E4 : Hid (WorkT k L P w w4 v ∧ DrawOK w4 P ca n cc (K + 30) C) := S3.out.work hw (by omega)
    clear hw
    go_wp2_with fail
    go_ret
    exact ⟨v, rfl, E4.out⟩
  · go_wp2_with fail
    refine (drawNext P n cc (K + 9) 4 ca C w3 (by omega) (by omega) (by omega) S3.out.2.1).mono ?_
    rintro e w5 ⟨y, rfl, hy, ht5, hd5⟩
    have S5 : Hid (DW P n cc (K + 12) ca C b o L w w5) := S3.out.step HD.out.2.2 ht5 hd5
    clear ht5 hd5 S3
    go_wp2_with fail
    refine (folderDr P n cc (K + 12) ca C w5 (by omega) S5.out.2.1).mono ?_
    rintro e w6 ⟨tf, rfl, hf6, ht6, hd6⟩
    have S6 : Hid (DW P n cc (K + 15) ca C b o L w w6) := S5.out.step HD.out.2.2 ht6 hd6
    have HF6 : Hid (FoldN tf) := hf6
    clear ht6 hd6 hf6 S5
    go_wp2_with fail
    refine (cpD b o m c k L HD.out.1 HD.out.2.1 u f _ tf HU.out (fold_short HF.out) (fold_short HF6.out) w6 S6.out.2.2).mono ?_
    rintro e w4 ⟨v, x, q, rfl, hw⟩
    have E4 : Hid (WorkT k L P w w4 v ∧ DrawOK w4 P ca n cc (K + 30) C) := S6.out.work hw (by omega)
    clear hw
    go_wp2_with fail
    go_ret
    exact ⟨v, rfl, E4.out⟩
  · have x0 : ((x : Int) == 0) = false := beq_eq_false_iff_ne.2 (by omega)
    have x1 : ((x : Int) == 1) = false := beq_eq_false_iff_ne.2 (by omega)
    have x2 : ((x : Int) == 2) = false := beq_eq_false_iff_ne.2 (by omega)
    have x3 : ((x : Int) == 3) = false := beq_eq_false_iff_ne.2 (by omega)
    have x4 : ((x : Int) == 4) = false := beq_eq_false_iff_ne.2 (by omega)
    have x5 : ((x : Int) == 5) = false := beq_eq_false_iff_ne.2 (by omega)
    go_wp2_with fail
    refine (mailTextDr P n cc (K + 9) ca C w3 (by omega) S3.out.2.1).mono ?_
    rintro e w5 ⟨t, rfl, ht85, ht5, hd5⟩
    have S5 : Hid (DW P n cc (K + 12) ca C b o L w w5) := S3.out.step HD.out.2.2 ht5 hd5
    clear ht5 hd5 S3
    go_wp2_with fail
    refine (drawNext P n cc (K + 12) 4 ca C w5 (by omega) (by omega) (by omega) S5.out.2.1).mono ?_
    rintro e w6 ⟨z, rfl, hz, ht6, hd6⟩
    have S6 : Hid (DW P n cc (K + 15) ca C b o L w w6) := S5.out.step HD.out.2.2 ht6 hd6
    clear ht6 hd6 S5
    go_wp2_with fail
    refine (appD b o m c k L HD.out.1 HD.out.2.1 u f t (z : Int) HU.out (fold_short HF.out) (by omega) (by omega) ht85 w6 S6.out.2.2).mono ?_
    rintro e w4 ⟨v, x, q, rfl, hw⟩
    have E4 : Hid (WorkT k L P w w4 v ∧ DrawOK w4 P ca n cc (K + 30) C) := S6.out.work hw (by omega)
    clear hw
    go_wp2_with fail
    go_ret
    exact ⟨v, rfl, E4.out⟩
def oneT : ByteArray := ⟨#[49]⟩
def appleT : ByteArray := ⟨#[97, 112, 112, 108, 101]⟩
def berryT : ByteArray := ⟨#[98, 101, 114, 114, 121]⟩
def new0 : List PM := [(vK, oneT)]
def new1 : List PM := [(folderK annT inboxT, metaT 1 1), (userK annT, appleT), (vK, bs (itoa 2))]
def new2 : List PM := [(folderK annT inboxT, metaT 1 1), (folderK bobT inboxT, metaT 2 1), (userK annT, appleT), (userK bobT, berryT), (vK, bs (itoa 3))]
theorem new1_is : addR new0 annT appleT = (new1, 0) := by kernel_rfl
theorem new2_is : addR new1 bobT berryT = (new2, 0) := by kernel_rfl
theorem new0_good : GoodL new0 := ⟨by decide, fun p hp => by simp [new0] at hp; subst hp; decide, List.pairwise_singleton _ _⟩
theorem new2_store : storeB new2 = true := by kernel_rfl
theorem new1_store : storeB new1 = true := by kernel_rfl
theorem new2_drawn : Drawn 0 new2 := by
  have hg := (store_facts new2_store).1
  refine ⟨new2_store, by show nextM new2 ≤ 3 + ((0 : Nat) : Int); rw [show nextM new2 = 3 from by kernel_rfl]; omega, fun v hv => ?_, fun p hp v f e y hy => ?_, fun p hp v f hv hf e => ?_⟩
  · constructor
    · intro h
      obtain ⟨x, hx⟩ := Option.isSome_iff_exists.1 h
      have hm := (getM_mem hg.2.2).1 hx
      simp only [new2, List.mem_cons, List.not_mem_nil, or_false] at hm
      have hk : ∀ {z : ByteArray}, userK v = z → v.data.toList = z.data.toList.drop 2 := fun {z} e9 => by rw [← e9, userK_data]; rfl
      rcases hm with h9 | h9 | h9 | h9 | h9
      · have h8 := congrArg (fun x : PM => x.1.data.toList) h9
        simp only [userK_data, folderK_data] at h8
        cases h8
      · have h8 := congrArg (fun x : PM => x.1.data.toList) h9
        simp only [userK_data, folderK_data] at h8
        cases h8
      · exact .inl (userK_inj (congrArg Prod.fst h9))
      · exact .inr (userK_inj (congrArg Prod.fst h9))
      · exact absurd (congrArg Prod.fst h9) (user_nv v)
    · rintro (rfl | rfl) <;> kernel_rfl
  · simp only [new2, List.mem_cons, List.not_mem_nil, or_false] at hp
    have h9 : metaV p.2 = some (1, 1) ∨ metaV p.2 = some (2, 1) ∨ p.1 ≠ folderK v f := by
      rcases hp with rfl | rfl | rfl | rfl | rfl
      · exact .inl (by kernel_rfl)
      · exact .inr (.inl (by kernel_rfl))
      · exact .inr (.inr fun e9 => by
          have h8 := congrArg (fun x : ByteArray => x.data.toList) e9
          simp only [userK_data, folderK_data] at h8
          cases h8)
      · exact .inr (.inr fun e9 => by
          have h8 := congrArg (fun x : ByteArray => x.data.toList) e9
          simp only [userK_data, folderK_data] at h8
          cases h8)
      · exact .inr (.inr fun e9 => folder_nv v f e9.symm)
    rcases h9 with h9 | h9 | h9
    · rw [hy] at h9
      cases h9
      show (1 : Int) ≤ 1 + ((0 : Nat) : Int)
      omega
    · rw [hy] at h9
      cases h9
      show (1 : Int) ≤ 1 + ((0 : Nat) : Int)
      omega
    · exact absurd e h9
  · have hus : ∀ z : ByteArray, (47 : UInt8) ∉ z.data.toList → folderK z inboxT = folderK v f → FoldN f := fun z hz e9 => by
      have h6 := congrArg (fun x : ByteArray => x.data.toList) e9
      simp only [folderK_data] at h6
      have hn := seg_inj hz hv (List.cons.inj (List.cons.inj h6).2).2
      exact .inl (bs_inj hn.2).symm
    simp only [new2, List.mem_cons, List.not_mem_nil, or_false] at hp
    rcases hp with rfl | rfl | rfl | rfl | rfl
    · exact hus annT (by decide) e
    · exact hus bobT (by decide) e
    · have h8 := congrArg (fun x : ByteArray => x.data.toList) e
      simp only [userK_data, folderK_data] at h8
      cases h8
    · have h8 := congrArg (fun x : ByteArray => x.data.toList) e
      simp only [userK_data, folderK_data] at h8
      cases h8
    · exact absurd e.symm (folder_nv v f)
theorem src_some {w : World} {a : Option Addr} {L : List PM} (h : Src w a (cellsP L)) (hne : L ≠ []) : ∃ b o, a = some ⟨b, o, none⟩ := by
  rcases h with h | ⟨b, o, e, _⟩
  · have h1 := cellsP_length L
    rw [h] at h1
    have h2 := List.length_pos_iff.2 hne
    simp at h1
    omega
  · exact ⟨b, o, e⟩
set_option maxHeartbeats 2000000 in
theorem newDr (w : World) :
    Calls Tryz.prog 74 #[] w fun e w' => ∃ b o n c, e = .returned (.slice (some ⟨b, o, none⟩) n c) ∧ LenC new2 n c ∧ Src w' (some ⟨b, o, none⟩) (cellsP new2) ∧ Below w.heap.size w w' := by
  go_enter Tryz.func74, Tryz.ntmps74
  go_wp2_with fail
  obtain ⟨w1, hw1⟩ : ∃ W, w.alloc (.cells #[.string ⟨#[118]⟩, .string ⟨#[49]⟩] 68) = W := ⟨_, rfl⟩
  have B1 : Hid (Below w.heap.size w w1) := by show Below _ _ _; rw [← hw1]; exact (Below.refl _ _).alloc (Nat.le_refl _) _
  have S1 : Hid (Src w1 (some ⟨w.heap.size, 0, none⟩) (cellsP new0)) := by
    show Src _ _ _
    rw [← hw1]
    have hb : Box (w.alloc (.cells #[.string ⟨#[118]⟩, .string ⟨#[49]⟩] 68)) w.heap.size [.string ⟨#[118]⟩, .string ⟨#[49]⟩] := Box.new rfl
    refine .inr ⟨w.heap.size, 0, rfl, fun j hj => ?_⟩
    have hj2 : j < 2 := hj
    rw [Nat.zero_add]
    match j, hj2 with
    | 0, _ => exact (hb 0 _ rfl).1
    | 1, _ => exact (hb 1 _ rfl).1
  refine (l07AddUserC w.heap.size 0 1 1 new0 rfl (by omega) (by unfold maxLen; omega) new0_good annT appleT (by decide) (by decide) (by decide) _ (by rw [hw1]; exact S1.out) new1 0 new1_is).mono ?_
  rintro e w2 ⟨a2, n2, c2, rfl, hl2, hs2, hb2⟩
  rw [hw1] at hb2
  obtain ⟨b2, o2, rfl⟩ := src_some hs2 (by decide)
  have B2 : Hid (Below w.heap.size w w2 ∧ LenC new1 n2 c2 ∧ Src w2 (some ⟨b2, o2, none⟩) (cellsP new1)) := ⟨B1.out.trans (hb2.mono B1.out.size), hl2, hs2⟩
  clear hb2 hl2 hs2 hw1 S1 B1
  go_wp2_with fail
  refine (l07AddUserC b2 o2 n2 c2 new1 B2.out.2.1.1 B2.out.2.1.2.1 B2.out.2.1.2.2 (store_facts new1_store).1 bobT berryT (by decide) (by decide) (by rw [show nextM new1 = 2 from by kernel_rfl]; decide) w2 B2.out.2.2 new2 0 new2_is).mono ?_
  rintro e w3 ⟨a3, n3, c3, rfl, hl3, hs3, hb3⟩
  obtain ⟨b3, o3, rfl⟩ := src_some hs3 (by decide)
  have B3 : Hid (LenC new2 n3 c3 ∧ Src w3 (some ⟨b3, o3, none⟩) (cellsP new2) ∧ Below w.heap.size w w3) := ⟨hl3, hs3, B2.out.1.trans (hb3.mono B2.out.1.size)⟩
  clear hb3 hl3 hs3 B2
  go_wp2_with fail
  go_ret
  exact ⟨b3, o3, n3, c3, rfl, B3.out⟩
set_option maxHeartbeats 2000000 in
theorem sizeDr (P n cc K : Nat) (ca : Option Addr) (C : List Nat) (w : World) (h : DrawOK w P ca n cc K C) :
    Calls Tryz.prog 76 #[.pointer (some ⟨P, 0, none⟩), .int .i64 16] w fun e w' => ∃ x : Nat, e = .returned (.int .i64 (x : Int)) ∧ 1 ≤ x ∧ x ≤ 16 ∧ Below w.heap.size w w' := by
  obtain ⟨⟨a, s, hbox, _⟩, _, hn, _⟩ := h
  obtain ⟨c0, _⟩ := hbox 0 _ rfl
  clear hbox
  obtain ⟨y, hy⟩ : ∃ y : Nat, n / 12 = y := ⟨_, rfl⟩
  have T : Int.tdiv (n : Int) 12 = (y : Int) := by rw [← hy]; rfl
  have hy9 : y ≤ 1048576 := by omega
  clear hy
  by_cases h16 : 1 + y ≤ 16
  · have hm : min (1 + (y : Int)) 16 = 1 + (y : Int) := by omega
    go_enter Tryz.func76, Tryz.ntmps76
    go_wp2_with fail
    go_ret
    exact ⟨1 + y, by simp, by omega, h16, Below.refl _ _⟩
  · have hm : min (1 + (y : Int)) 16 = 16 := by omega
    go_enter Tryz.func76, Tryz.ntmps76
    go_wp2_with fail
    go_ret
    exact ⟨16, rfl, by omega, by omega, Below.refl _ _⟩
/-- A drawn store. -/
def DrawnM (L : List PM) : Prop := ∃ k, k ≤ 22 ∧ Drawn k L
set_option maxHeartbeats 4000000 in
theorem mailsDr (P n cc : Nat) (ca : Option Addr) (C : List Nat) (w : World) (h : DrawOK w P ca n cc 0 C) :
    Calls Tryz.prog 33 #[.pointer (some ⟨P, 0, none⟩)] w fun e w' => ∃ v L, e = .returned v ∧ DrawnM L ∧ w'.ownsRow w.heap.size 68 2 v L.length (cellsP L) ∧ Turned P (P + 1) w w' := by
  have H : Hid (DrawOK w P ca n cc 0 C) := h
  have PL : Hid (P < w.heap.size) := h.lt
  clear h
  go_enter Tryz.func33, Tryz.ntmps33
  go_wp2_with fail
  refine (newDr w).mono ?_
  rintro e w1 ⟨b, o, m, c, rfl, hl1, hs1, hb1⟩
  have S1 : Hid (Turned P (P + 1) w w1 ∧ DrawOK w1 P ca n cc 0 C ∧ Src w1 (some ⟨b, o, none⟩) (cellsP new2) ∧ LenC new2 m c) := ⟨Turned.of_below hb1, H.out.below hb1, hs1, hl1⟩
  clear hl1 hs1 hb1 H
  go_wp2_with fail
  refine (sizeDr P n cc 0 ca C w1 S1.out.2.1).mono ?_
  rintro e w2 ⟨x, rfl, hx1, hx2, hb2⟩
  have S2 : Hid (Turned P (P + 1) w w2 ∧ DrawOK w2 P ca n cc 0 C ∧ Src w2 (some ⟨b, o, none⟩) (cellsP new2) ∧ LenC new2 m c) := ⟨S1.out.1.trans (Turned.of_below hb2), S1.out.2.1.below hb2, S1.out.2.2.1.below hb2, S1.out.2.2.2⟩
  have hxi : (x : Int) + 6 = ((x + 6 : Nat) : Int) := by omega
  have CN := drawNext P n cc 0 (x + 6) ca C w2 (by omega) (by omega) (by omega) S2.out.2.1
  rw [← hxi] at CN
  clear hb2 S1 hxi
  go_wp2_with fail
  refine CN.mono ?_
  rintro e w3 ⟨y, rfl, hy, ht3, hd3⟩
  have S3 : Hid (DW P n cc 3 ca C b o new2 w w3) := DW.step (wi := w2) (K1 := 0) ⟨S2.out.1, S2.out.2.1, S2.out.2.2.1⟩ (by decide) ht3 hd3
  have HL : Hid (LenC new2 m c) := S2.out.2.2.2
  have hy22 : y ≤ 22 := by omega
  clear ht3 hd3 CN S2 hx1 hx2 hy
  go_wp2_with fail
  go_loopw [3, 4] (fun lv iv wr => ∃ (j k b' o' m' c' : Nat) (L : List PM), lv = .slice (some ⟨b', o', none⟩) m' c' ∧ iv = .int .i64 (j : Int) ∧ j + k ≤ 22 ∧ Hid (Drawn k L) ∧ Hid (LenC L m' c') ∧ Hid (DW P n cc (3 + 30 * k) ca C b' o' L w wr)) (fun _ i _ => (RowKit.intOf i).toNat)
  case atStart => exact ⟨y, 0, b, o, m, c, new2, rfl, rfl, by omega, new2_drawn, HL.out, S3.out⟩
  case round =>
    obtain ⟨j, k, b', o', m', c', L, rfl, rfl, hjk, hD, hLn, hW⟩ := hrel
    by_cases hj : 0 < j
    · have hj0 : (0 : Int) < (j : Int) := by omega
      go_wp2_with fail
      refine (workDr P n cc (3 + 30 * k) k ca C b' o' m' c' L wr (by omega) hW.out.2.1 hD.out hLn.out hW.out.2.2).mono ?_
      rintro e w4 ⟨v, rfl, ⟨a4, n4, c4, L4, rfl, hl4, hs4, ⟨hd4, _⟩, ht4⟩, ho4⟩
      obtain ⟨b4, o4, rfl⟩ := src_some hs4 hd4.ne
      have HF : Hid (Drawn (k + 1) L4 ∧ LenC L4 n4 c4 ∧ DW P n cc (3 + 30 * (k + 1)) ca C b4 o4 L4 w w4) := ⟨hd4, hl4, hW.out.1.trans ht4, ho4.more (by omega), hs4⟩
      clear hl4 hs4 hd4 ht4 ho4 hD hLn hW
      go_wp2_with fail
      exact ⟨⟨j - 1, k + 1, b4, o4, n4, c4, L4, rfl, by go_num, by omega, HF.out.1, HF.out.2.1, HF.out.2.2⟩, by simp [RowKit.intOf]; omega⟩
    · have hj0 : ¬ (0 : Int) < (j : Int) := by omega
      have hn60 := (store_facts hD.out.st).1.1
      have hlen := hLn.out.1
      have CO := l07OwnS (some ⟨b', o', none⟩) m' c' L wr hlen (by omega) hW.out.2.2
      have HM : Hid (L.length = m') := hlen
      have HK : Hid (DrawnM L) := ⟨k, by omega, hD.out⟩
      clear hn60 hlen hLn hD
      go_wp2_with fail
      refine CO.mono ?_
      rintro e w5 ⟨v, rfl, ho5, hb5⟩
      have HF : Hid (w5.ownsRow w.heap.size 68 2 v L.length (cellsP L) ∧ Turned P (P + 1) w w5) := ⟨by rw [HM.out]; exact own_mono ho5 hW.out.1.size, hW.out.1.trans (Turned.of_below hb5)⟩
      clear ho5 hb5 CO hW
      go_wp2_with fail
      go_ret
      exact ⟨v, L, rfl, HK.out, HF.out⟩
set_option maxHeartbeats 2000000 in
theorem specMailsOf (ca : Option Addr) (n cc : Nat) (C : List Nat) (w : World) (hC : C.length = n) (hn : n ≤ 1048576) (h8 : ∀ x ∈ C, x < 256) (hs : Src w ca (cellsB C)) :
    Calls Tryz.prog 7 #[.slice ca n cc] w fun e w' => ∃ v L, e = .returned v ∧ DrawnM L ∧ w'.ownsRow w.heap.size 68 2 v L.length (cellsP L) ∧ Below w.heap.size w w' := by
  have CS := l00Source ca n cc C w hC (Nat.le_trans hn (by decide)) h8 hs
  clear hC hn h8 hs
  go_enter Tryz.func7, Tryz.ntmps7
  go_wp2_with fail
  refine CS.mono ?_
  rintro e w1 ⟨rfl, hz1, hb1, hd1⟩
  have B1 : Hid (Below w.heap.size w w1 ∧ w1.heap.size = w.heap.size + 1) := ⟨hb1, hz1⟩
  have CM := mailsDr w.heap.size n cc ca C w1 hd1
  clear hz1 hb1 hd1 CS
  go_wp2_with fail
  refine CM.mono ?_
  rintro e w2 ⟨v, L, rfl, hL, ho, ht⟩
  have HF : Hid (DrawnM L ∧ w2.ownsRow w.heap.size 68 2 v L.length (cellsP L) ∧ Below w.heap.size w w2) := ⟨hL, own_mono ho B1.out.1.size, Below.turned B1.out.1 ht (Nat.le_refl _) (Nat.le_refl _)⟩
  clear hL ho ht CM
  go_wp2_with fail
  go_ret
  exact ⟨v, L, rfl, HF.out⟩
set_option maxHeartbeats 2000000 in
theorem specUserOf (ca : Option Addr) (n cc : Nat) (C : List Nat) (w : World) (hC : C.length = n) (hn : n ≤ 1048576) (h8 : ∀ x ∈ C, x < 256) (hs : Src w ca (cellsB C)) :
    Calls Tryz.prog 8 #[.slice ca n cc] w fun e w' => ∃ s : ByteArray, e = .returned (.string s) ∧ (s = annT ∨ s = bobT) ∧ Below w.heap.size w w' := by
  have CS := l00Source ca n cc C w hC (Nat.le_trans hn (by decide)) h8 hs
  clear hC hn h8 hs
  go_enter Tryz.func8, Tryz.ntmps8
  go_wp2_with fail
  refine CS.mono ?_
  rintro e w1 ⟨rfl, hz1, hb1, hd1⟩
  have B1 : Hid (Below w.heap.size w w1) := hb1
  have CM := userDr w.heap.size n cc 0 ca C w1 (by omega) hd1
  clear hz1 hb1 hd1 CS
  go_wp2_with fail
  refine CM.mono ?_
  rintro e w2 ⟨s, rfl, hp, ht, _⟩
  have HF : Hid ((s = annT ∨ s = bobT) ∧ Below w.heap.size w w2) := ⟨hp, Below.turned B1.out ht (Nat.le_refl _) (Nat.le_refl _)⟩
  clear hp ht CM
  go_wp2_with fail
  go_ret
  exact ⟨s, rfl, HF.out⟩
set_option maxHeartbeats 2000000 in
theorem specMailWork (ca : Option Addr) (n cc : Nat) (C : List Nat) (k b o m c : Nat) (L : List PM) (w : World) (hC : C.length = n) (hn : n ≤ 1048577) (h8 : ∀ x ∈ C, x < 256) (hs : Src w ca (cellsB C)) (hD : Drawn k L) (hL : LenC L m c) (hl : Src w (some ⟨b, o, none⟩) (cellsP L)) :
    Calls Tryz.prog 18 #[.slice ca n cc, .slice (some ⟨b, o, none⟩) m c] w fun e w' => ∃ a2 n2 c2 L', e = .returned (.slice a2 n2 c2) ∧ LenC L' n2 c2 ∧ Src w' a2 (cellsP L') ∧ (Drawn (k + 1) L' ∧ nextM L ≤ nextM L') ∧ Below w.heap.size w w' := by
  have CS := l00Source ca n cc C w hC hn h8 hs
  have HD : Hid (Drawn k L ∧ LenC L m c ∧ Src w (some ⟨b, o, none⟩) (cellsP L)) := ⟨hD, hL, hl⟩
  clear hC hn h8 hs hD hL hl
  go_enter Tryz.func18, Tryz.ntmps18
  go_wp2_with fail
  refine CS.mono ?_
  rintro e w1 ⟨rfl, hz1, hb1, hd1⟩
  have B1 : Hid (Below w.heap.size w w1 ∧ w1.heap.size = w.heap.size + 1) := ⟨hb1, hz1⟩
  have CM := workDr w.heap.size n cc 0 k ca C b o m c L w1 (by omega) hd1 HD.out.1 HD.out.2.1 (HD.out.2.2.below hb1)
  clear hz1 hb1 hd1 CS
  go_wp2_with fail
  refine CM.mono ?_
  rintro e w2 ⟨v, rfl, ⟨a2, n2, c2, L2, rfl, h1, h2, h3, ht⟩, _⟩
  have HF : Hid (LenC L2 n2 c2 ∧ Src w2 a2 (cellsP L2) ∧ (Drawn (k + 1) L2 ∧ nextM L ≤ nextM L2) ∧ Below w.heap.size w w2) := ⟨h1, h2, h3, Below.turned B1.out.1 ht (Nat.le_refl _) (Nat.le_refl _)⟩
  clear h1 h2 h3 ht CM
  go_wp2_with fail
  go_ret
  exact ⟨a2, n2, c2, L2, rfl, HF.out⟩
end Go.Proofs.YthgbclipknfmjaaGreatDoor
namespace Go.Proofs.YthgbclipknfmjaaGreatDoor
open Go.ChangeShapes Go.WideShapes Go.ChangeAt Go.RowKit Go.Deep
set_option linter.unusedVariables false
set_option maxRecDepth 100000

set_option maxHeartbeats 1000000 in
theorem samePairs (a b : Option Addr) (n c d : Nat) (f g : Nat → ByteArray) (w : World) (hn : n ≤ 1048576) (ha : Sp w a n f g) (hb : Sp w b n f g) :
    Calls Tryz.prog 15 #[.slice a n c, .slice b n d] w fun e w' => e = .returned (.bool true) ∧ Below w.heap.size w w' := by
  have hne : ((n : Int) != (n : Int)) = false := by simp
  have HA : Hid (Sp w a n f g) := ha
  have HB : Hid (Sp w b n f g) := hb
  clear ha hb
  go_enter Tryz.func15, Tryz.ntmps15
  go_wp2_with fail
  go_loopw [5] (fun i wr => ∃ k : Nat, k ≤ n ∧ i = .int .i64 k ∧ Hid (Below w.heap.size w wr)) (fun i _ => n - (RowKit.intOf i).toNat)
  case atStart => exact ⟨0, by omega, rfl, Below.refl _ _⟩
  case round =>
    obtain ⟨k, hk, rfl, hB⟩ := hrel
    by_cases hlt : k < n
    · rcases HA.out.below hB.out with h0 | ⟨b1, o1, rfl, hc1⟩
      · omega
      rcases HB.out.below hB.out with h0 | ⟨b2, o2, rfl, hc2⟩
      · omega
      obtain ⟨x, hx⟩ : ∃ x, f k = x := ⟨_, rfl⟩
      obtain ⟨y, hy⟩ : ∃ y, g k = y := ⟨_, rfl⟩
      obtain ⟨p1, p2⟩ := hc1 k hlt
      obtain ⟨p3, p4⟩ := hc2 k hlt
      rw [hx] at p1 p3
      rw [hy] at p2 p4
      clear hx hy hc1 hc2
      have hk0 : (0 : Int) ≤ (k : Int) := by omega
      have hki : (k : Int) < (n : Int) := by omega
      go_wp2_with fail
      go_quiet (fail)
      go_wp2_with fail
      exact ⟨⟨k + 1, by omega, by go_num, Below.drewN' hB.out _⟩, by simp [RowKit.intOf]; omega⟩
    · go_wp2_with fail
      go_ret
      exact ⟨rfl, hB.out⟩
theorem samePairsM (a b : Option Addr) (n c d : Nat) (L : List PM) (w : World) (hL : L.length = n) (hn : n ≤ 1048576) (ha : Src w a (cellsP L)) (hb : Src w b (cellsP L)) :
    Calls Tryz.prog 15 #[.slice a n c, .slice b n d] w fun e w' => e = .returned (.bool true) ∧ Below w.heap.size w w' :=
  samePairs a b n c d (fK L) (fV L) w hn (sp_src ha hL) (sp_src hb hL)
end Go.Proofs.YthgbclipknfmjaaGreatDoor
namespace Go.Proofs.YthgbclipknfmjaaGreatDoor
open Go.ChangeShapes Go.WideShapes Go.ChangeAt Go.RowKit Go.Deep
set_option linter.unusedVariables false

set_option maxHeartbeats 1000000 in
theorem sameTexts (a b : Option Addr) (n c d : Nat) (L : List ByteArray) (w : World) (hL : L.length = n) (hn : n ≤ 1048576) (ha : Src w a (cellsS L)) (hb : Src w b (cellsS L)) :
    Calls Tryz.prog 27 #[.slice a n c, .slice b n d] w fun e w' => e = .returned (.bool true) ∧ Below w.heap.size w w' := by
  have hne : ((n : Int) != (n : Int)) = false := by simp
  have HA : Hid (Src w a (cellsS L)) := ha
  have HB : Hid (Src w b (cellsS L)) := hb
  have HL : Hid (L.length = n) := hL
  clear ha hb hL
  go_enter Tryz.func27, Tryz.ntmps27
  go_wp2_with fail
  go_loopw [5] (fun i wr => ∃ k : Nat, k ≤ n ∧ i = .int .i64 k ∧ Hid (Below w.heap.size w wr)) (fun i _ => n - (intOf i).toNat)
  case atStart => exact ⟨0, by omega, rfl, Below.refl _ _⟩
  case round =>
    obtain ⟨k, hk, rfl, hB⟩ := hrel
    by_cases hlt : k < n
    · obtain ⟨b1, o1, y, rfl, p1, hy1⟩ := srcS (HA.out.below hB.out) (i := k) (by rw [HL.out]; exact hlt)
      obtain ⟨b2, o2, y2, rfl, p2, hy2⟩ := srcS (HB.out.below hB.out) (i := k) (by rw [HL.out]; exact hlt)
      obtain rfl : y = y2 := hy1.out.symm.trans hy2.out
      have hk0 : (0 : Int) ≤ (k : Int) := by omega
      have hki : (k : Int) < (n : Int) := by omega
      go_wp2_with fail
      go_quiet (fail)
      go_wp2_with fail
      exact ⟨⟨k + 1, by omega, by go_num, Below.drewN' hB.out _⟩, by simp [intOf]; omega⟩
    · go_wp2_with fail
      go_ret
      exact ⟨rfl, hB.out⟩
end Go.Proofs.YthgbclipknfmjaaGreatDoor
