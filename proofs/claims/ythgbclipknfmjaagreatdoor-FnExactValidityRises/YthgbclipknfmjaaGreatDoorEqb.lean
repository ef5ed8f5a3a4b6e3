
/-
  A mail store's folders and mails: what the program's desk holds, what the specification asks of each pair. Lists alone. By an AI agent.
-/
import Derived.Test.YthgbclipknfmjaaGreatDoorEqa
namespace Go.Proofs.YthgbclipknfmjaaGreatDoor
open Go.ChangeShapes Go.WideShapes Go.ChangeAt Go.RowKit Go.Deep Go.Lib
set_option linter.unusedVariables false
set_option linter.unusedSimpArgs false
set_option maxRecDepth 100000

theorem split_back {c : UInt8} : ∀ {l a b : List UInt8} {r : List (List UInt8)}, splitL c l = a :: b :: r → ∃ rest, l = a ++ c :: rest ∧ splitL c rest = b :: r ∧ c ∉ a
  | [], a, b, r, h => by cases h
  | x :: l, a, b, r, h => by
    unfold splitL at h
    by_cases e : x = c
    · rw [if_pos e] at h
      injection h with h1 h2
      exact ⟨l, by rw [e, ← h1]; rfl, h2, by rw [← h1]; simp⟩
    · rw [if_neg e] at h
      split at h
      · cases h
      · rename_i hd t h1
        injection h with k1 k2
        rw [k2] at h1
        obtain ⟨rest, h2, h3, h4⟩ := split_back h1
        exact ⟨rest, by rw [h2, ← k1]; rfl, h3, fun h9 => by
          rw [← k1] at h9
          rcases List.mem_cons.1 h9 with h9 | h9
          · exact e h9.symm
          · exact h4 h9⟩
theorem split_one {c : UInt8} {l a : List UInt8} (h : splitL c l = [a]) : l = a ∧ c ∉ a := by
  have h1 := splitL_length c l
  rw [h] at h1
  have h2 : c ∉ l := List.count_eq_zero.1 (by simp at h1; omega)
  have h3 := splitL_whole c l h2
  rw [h] at h3
  cases h3
  exact ⟨rfl, h2⟩
theorem dec_space : ∀ {l : List UInt8} {acc u : Nat}, decFrom acc l = some u → (32 : UInt8) ∉ l
  | [], _, _, _ => by simp
  | c :: l, acc, u, h => by
    unfold decFrom at h
    intro h9
    cases hd : digitVal c with
    | none => rw [hd] at h; cases h
    | some d =>
      rw [hd] at h
      rcases List.mem_cons.1 h9 with h9 | h9
      · rw [← h9] at hd
        rw [show digitVal 32 = none by decide] at hd
        cases hd
      · exact dec_space h h9
theorem num_space {t : List UInt8} {n : Int} (h : numB t = some n) : (32 : UInt8) ∉ t := by
  have hm : ∀ {neg : Bool} {ds : List UInt8} {n : Int}, magB neg ds = some n → (32 : UInt8) ∉ ds := by
    intro neg ds n h
    unfold magB at h
    split at h
    · cases h
    · obtain ⟨u, h1, _⟩ := Option.map_eq_some_iff.1 h
      exact dec_space h1
  match t, h with
  | [], _ => simp
  | c :: r, h =>
    have h : (if c = 45 then magB true r else magB false (c :: r)) = some n := h
    split at h
    · rename_i e
      intro h9
      rcases List.mem_cons.1 h9 with h9 | h9
      · rw [e] at h9; exact absurd h9 (by decide)
      · exact hm h h9
    · exact hm h
theorem metaN_some {a b : Option Int} {p : Int × Int} : metaN a b = some p ↔ a = some p.1 ∧ b = some p.2 ∧ 1 ≤ p.1 ∧ p.1 ≤ 9999 ∧ 1 ≤ p.2 ∧ p.2 ≤ 999 := by
  match a, b with
  | none, none => simp [metaN]
  | none, some _ => simp [metaN]
  | some _, none => simp [metaN]
  | some x, some y =>
    show (if _ then _ else _) = _ ↔ _
    constructor
    · intro h
      obtain ⟨h1, rfl⟩ := ite_some h
      exact ⟨rfl, rfl, h1.1, h1.2.1, h1.2.2.1, h1.2.2.2⟩
    · rintro ⟨h1, h2, h3, h4, h5, h6⟩
      cases h1; cases h2
      rw [if_pos ⟨h3, h4, h5, h6⟩]
theorem folderN_some {nx : Int} {name : ByteArray} {a b : Option Int} {f : FM} : folderN nx name a b = some f ↔ shortB name = true ∧ a = some f.val ∧ b = some f.next ∧ 1 ≤ f.val ∧ f.val ≤ nx - 1 ∧ 1 ≤ f.next ∧ f.next ≤ 999 ∧ f = ⟨name, f.val, f.next, []⟩ := by
  match a, b with
  | none, none => simp [folderN]
  | none, some _ => simp [folderN]
  | some _, none => simp [folderN]
  | some x, some y =>
    show (if _ then _ else _) = _ ↔ _
    constructor
    · intro h
      obtain ⟨h1, rfl⟩ := ite_some h
      exact ⟨h1.1, rfl, rfl, h1.2.1, h1.2.2.1, h1.2.2.2.1, h1.2.2.2.2, rfl⟩
    · rintro ⟨h1, h2, h3, h4, h5, h6, h7, h8⟩
      cases h2; cases h3
      rw [if_pos ⟨h1, h4, h5, h6, h7⟩]
      exact congrArg some h8.symm
theorem folder_meta {nx : Int} (hnx : nx ≤ 10000) {name v : ByteArray} {f : FM} : folderM nx name v = some f ↔ shortB name = true ∧ metaV v = some (f.val, f.next) ∧ f.val < nx ∧ f = ⟨name, f.val, f.next, []⟩ := by
  unfold folderM metaV
  rw [folderN_some]
  match hs : splitL 32 v.data.toList with
  | [] => exact absurd hs (splitL_ne 32 _)
  | [a] =>
    obtain ⟨h1, h2⟩ := split_one hs
    rw [h1, cut_no 32 a h2]
    constructor
    · rintro ⟨_, _, h, _⟩; cases h
    · rintro ⟨_, h, _⟩; cases h
  | a :: b :: r =>
    obtain ⟨rest, h1, h2, h3⟩ := split_back hs
    rw [h1, cut_yes 32 a rest h3]
    match r, h2 with
    | [], h2 =>
      obtain ⟨h4, h5⟩ := split_one h2
      subst h4
      show _ ↔ _ ∧ metaN (numB a) (numB rest) = _ ∧ _
      rw [metaN_some]
      constructor
      · rintro ⟨k1, k2, k3, k4, k5, k6, k7, k8⟩
        exact ⟨k1, ⟨k2, k3, k4, by show f.val ≤ 9999; omega, k6, k7⟩, by omega, k8⟩
      · rintro ⟨k1, ⟨k2, k3, k4, k5, k6, k7⟩, k8, k9⟩
        exact ⟨k1, k2, k3, k4, by omega, k6, k7, k9⟩
    | c :: r, h2 =>
      constructor
      · rintro ⟨_, _, h, _⟩
        have h9 := num_space h
        obtain ⟨rest2, h7, _⟩ := split_back h2
        exact absurd (by show (32 : UInt8) ∈ rest; rw [h7]; simp) h9
      · rintro ⟨_, h, _⟩; cases h
theorem meta_text {v : ByteArray} {p : Int × Int} (h : metaV v = some p) : v = metaT p.1 p.2 := by
  unfold metaV at h
  match hs : splitL 32 v.data.toList, h with
  | [a, b], h =>
    obtain ⟨h1, h2, _⟩ := metaN_some.1 h
    obtain ⟨rest, h3, h4, _⟩ := split_back hs
    obtain ⟨h5, _⟩ := split_one h4
    have h6 := (is_of_num h1).1
    have h7 := (is_of_num h2).1
    apply bs_inj
    unfold metaT
    rw [h3, h5, h6, h7]
    simp [ByteArray.data_append]
    rfl
theorem key_user {k : ByteArray} {b : List UInt8} (h : splitL 47 k.data.toList = [[117], b]) : k = userK (bs b) ∧ (47 : UInt8) ∉ b := by
  obtain ⟨r, h1, h2, _⟩ := split_back h
  obtain ⟨h3, h4⟩ := split_one h2
  refine ⟨bs_inj ?_, h4⟩
  rw [h1, h3]
  simp [userK, ByteArray.data_append]
  rfl
theorem key_folder {k : ByteArray} {b c : List UInt8} (h : splitL 47 k.data.toList = [[102], b, c]) : k = folderK (bs b) (bs c) ∧ (47 : UInt8) ∉ b ∧ (47 : UInt8) ∉ c := by
  obtain ⟨r, h1, h2, _⟩ := split_back h
  obtain ⟨r2, h3, h4, h5⟩ := split_back h2
  obtain ⟨h6, h7⟩ := split_one h4
  refine ⟨bs_inj ?_, h5, h7⟩
  rw [folderK_data, h1, h3, h6]
  rfl
theorem key_mail {k : ByteArray} {b c d : List UInt8} (h : splitL 47 k.data.toList = [[109], b, c, d]) : k.data.toList = 109 :: 47 :: (b ++ 47 :: (c ++ 47 :: d)) ∧ (47 : UInt8) ∉ b ∧ (47 : UInt8) ∉ c := by
  obtain ⟨r, h1, h2, _⟩ := split_back h
  obtain ⟨r2, h3, h4, h5⟩ := split_back h2
  obtain ⟨r3, h6, h7, h8⟩ := split_back h4
  obtain ⟨h9, _⟩ := split_one h7
  exact ⟨by rw [h1, h3, h6, h9]; rfl, h5, h8⟩
theorem parts_user {u : ByteArray} (h : (47 : UInt8) ∉ u.data.toList) : splitL 47 (userK u).data.toList = [[117], u.data.toList] := by
  have h1 : (userK u).data.toList = [117] ++ 47 :: u.data.toList := by simp [userK, ByteArray.data_append]
  rw [h1, splitL_seg 47 [117] _ (by decide), splitL_whole 47 _ h]
theorem parts_folder {u f : ByteArray} (h : (47 : UInt8) ∉ u.data.toList) (h2 : (47 : UInt8) ∉ f.data.toList) : splitL 47 (folderK u f).data.toList = [[102], u.data.toList, f.data.toList] := by
  have h1 : (folderK u f).data.toList = [102] ++ 47 :: (u.data.toList ++ 47 :: f.data.toList) := by rw [folderK_data]; rfl
  rw [h1, splitL_seg 47 [102] _ (by decide), splitL_seg 47 _ _ h, splitL_whole 47 _ h2]
/-- What an owned pair must be. -/
def okG (nx : Int) (u : ByteArray) (L : List PM) (v : ByteArray) : List (List UInt8) → Prop
  | [_, _] => shortB u = true ∧ shortB v = true
  | [_, _, c] => ∃ f, folderM nx (bs c) v = some f
  | [_, _, c, d] => ∃ w f, (folderK u (bs c), w) ∈ L ∧ folderM nx (bs c) w = some f ∧ (mailO f d v).isSome = true
  | _ => False
def isMailG (u : ByteArray) : List (List UInt8) → Bool
  | [a, b, _, _] => decide (a = [109] ∧ bs b = u)
  | _ => false
abbrev isMail (u : ByteArray) (q : PM) : Bool := isMailG u (splitL 47 q.1.data.toList)
structure Inv (nx : Int) (u : ByteArray) (P : List PM) (S : SM) : Prop where
  a : ∀ name f', lookF name S.fs = some f' → ∃ w f, (folderK u name, w) ∈ P ∧ folderM nx name w = some f ∧ f'.next = f.next
  b : ∀ name w, (47 : UInt8) ∉ name.data.toList → (folderK u name, w) ∈ P → (lookF name S.fs).isSome = true
  c : sumF S.fs = (P.filter (isMail u)).length
theorem mailO_next {f f' : FM} {d : List UInt8} {v : ByteArray} (h : f'.next = f.next) : (mailO f' d v).isSome = (mailO f d v).isSome := by
  unfold mailO
  rw [h]
  cases decFrom 0 d with
  | none => rfl
  | some n =>
    simp only [Option.bind_some]
    split <;> rfl
theorem lookF_put {g : FM} {n : ByteArray} : ∀ {fs : List FM}, lookF n (putF g fs) = if g.name = n then some g else lookF n fs
  | [] => by
    unfold putF lookF
    rfl
  | f :: fs => by
    have ih := lookF_put (g := g) (n := n) (fs := fs)
    unfold putF
    by_cases e : f.name = g.name
    · rw [if_pos e]
      unfold lookF
      by_cases h : g.name = n
      · rw [if_pos h, if_pos h]
      · rw [if_neg h, if_neg h, if_neg (by rw [e]; exact h)]
    · rw [if_neg e]
      unfold lookF
      by_cases h : f.name = n
      · rw [if_pos h, if_pos h, if_neg (by rw [← h]; exact fun h9 => e h9.symm)]
      · rw [if_neg h, if_neg h]
        exact ih
theorem sum_fresh {g : FM} : ∀ {fs : List FM}, lookF g.name fs = none → sumF (putF g fs) = sumF fs + g.mails.length
  | [], _ => by simp [putF, sumF]
  | f :: fs, h => by
    unfold lookF at h
    by_cases e : f.name = g.name
    · rw [if_pos e] at h; cases h
    · rw [if_neg e] at h
      unfold putF
      rw [if_neg e]
      unfold sumF
      have := sum_fresh h
      omega
theorem filter_snoc {α : Type} (f : α → Bool) (P : List α) (q : α) : ((P ++ [q]).filter f).length = (P.filter f).length + if f q = true then 1 else 0 := by
  rw [List.filter_append, List.length_append]
  cases h : f q <;> simp [h]
end Go.Proofs.YthgbclipknfmjaaGreatDoor
