/-
  Eqa Eqb Eqc Eqd Ask7 in one. By an AI agent.
-/
import Derived.Test.YthgbclipknfmjaaGreatDoorFu08
import Derived.Test.YthgbclipknfmjaaGreatDoorFu09
namespace Go.Proofs.YthgbclipknfmjaaGreatDoor
open Go.ChangeShapes Go.WideShapes Go.ChangeAt Go.RowKit Go.Deep Go.Lib
set_option linter.unusedVariables false
set_option linter.unusedSimpArgs false
set_option maxRecDepth 100000

def ownerG : List (List UInt8) → Option ByteArray
  | [a, b] => if a = [117] then some (bs b) else none
  | [a, b, _] => if a = [102] then some (bs b) else none
  | [a, b, _, _] => if a = [109] then some (bs b) else none
  | _ => none
def ownerM (p : PM) : Option ByteArray := ownerG (splitL 47 p.1.data.toList)
theorem take_other {nx : Int} {u : ByteArray} {S : SM} {p : PM} {G : List (List UInt8)} (h : ownerG G ≠ some u) : takeP nx u S p G = asideM S p := by
  match G, h with
  | [], _ => rfl
  | [_], _ => rfl
  | [a, b], h => exact if_neg fun h9 => h (by show (if a = [117] then _ else _) = _; rw [if_pos h9.2, h9.1])
  | [a, b, c], h => exact if_neg fun h9 => h (by show (if a = [102] then _ else _) = _; rw [if_pos h9.2, h9.1])
  | [a, b, c, d], h => exact if_neg fun h9 => h (by show (if a = [109] then _ else _) = _; rw [if_pos h9.2, h9.1])
  | _ :: _ :: _ :: _ :: _ :: _, _ => rfl
theorem put_aside {S S' : SM} {o : Option FM} (h : putM S o = some S') : S'.aside = S.aside ∧ S'.word = S.word := by
  unfold putM at h
  obtain ⟨g, rfl, rfl⟩ := Option.map_eq_some_iff.1 h
  exact ⟨rfl, rfl⟩
theorem ite_some {α : Type} {c : Prop} [Decidable c] {x y : α} (h : (if c then some x else none) = some y) : c ∧ x = y := by
  split at h
  · cases h; exact ⟨by assumption, rfl⟩
  · cases h
theorem take_own {nx : Int} {u : ByteArray} {S S' : SM} {p : PM} {G : List (List UInt8)} (h : ownerG G = some u) (hs : takeP nx u S p G = some S') : S'.aside = S.aside := by
  match G, h, hs with
  | [], h, _ => cases h
  | [_], h, _ => cases h
  | [a, b], h, hs =>
    obtain ⟨h1, h2⟩ := ite_some h
    have h3 : takeP nx u S p [a, b] = userM u S p.2 := if_pos ⟨h2, h1⟩
    rw [h3] at hs
    unfold userM at hs
    split at hs
    · cases hs; rfl
    · cases hs
  | [a, b, c], h, hs =>
    obtain ⟨h1, h2⟩ := ite_some h
    have h3 : takeP nx u S p [a, b, c] = putM S (folderM nx (bs c) p.2) := if_pos ⟨h2, h1⟩
    rw [h3] at hs
    exact (put_aside hs).1
  | [a, b, c, d], h, hs =>
    obtain ⟨h1, h2⟩ := ite_some h
    have h3 : takeP nx u S p [a, b, c, d] = putM S (mailM S.fs (bs c) (bs d) p.2) := if_pos ⟨h2, h1⟩
    rw [h3] at hs
    exact (put_aside hs).1
  | _ :: _ :: _ :: _ :: _ :: _, h, _ => cases h
abbrev isOwn (u : ByteArray) (p : PM) : Bool := decide (ownerM p = some u)
theorem all_aside {nx : Int} {u : ByteArray} : ∀ {L : List PM} {S S' : SM}, takeAll nx u S L = some S' → S'.aside = S.aside ++ L.filter fun p => !isOwn u p
  | [], S, S', h => by cases h; simp
  | p :: L, S, S', h => by
    unfold takeAll at h
    obtain ⟨S1, h1, h2⟩ := Option.bind_eq_some_iff.1 h
    have ih := all_aside h2
    by_cases ho : ownerM p = some u
    · have h3 : S1.aside = S.aside := take_own ho h1
      rw [ih, h3, List.filter_cons_of_neg (by simp [isOwn, ho])]
    · have h3 : asideM S p = some S1 := (take_other ho).symm.trans h1
      cases h3
      rw [ih, List.filter_cons_of_pos (by simp [isOwn, ho])]
      simp
theorem len_split {α : Type} (f : α → Bool) : ∀ L : List α, (L.filter f).length + (L.filter fun x => !f x).length = L.length
  | [] => rfl
  | x :: L => by
    have ih := len_split f L
    cases h : f x with
    | true => rw [List.filter_cons_of_pos h, List.filter_cons_of_neg (by simp [h]), List.length_cons, List.length_cons]; omega
    | false => rw [List.filter_cons_of_neg (by simp [h]), List.filter_cons_of_pos (by simp [h]), List.length_cons, List.length_cons]; omega
def ownN (u : ByteArray) (L : List PM) : Nat := (L.filter (isOwn u)).length
theorem aside_own {nx : Int} {u : ByteArray} {L : List PM} (h : layF nx u S0 L = true) : L.length - asideN nx u L = ownN u L := by
  unfold layF at h
  split at h
  · rename_i S hS
    have h1 := all_aside hS
    have h2 := len_split (isOwn u) L
    unfold asideN ownN
    rw [hS]
    show L.length - S.aside.length = _
    rw [h1]
    show L.length - ([] ++ L.filter fun p => !isOwn u p).length = _
    rw [List.nil_append]
    omega
  · cases h
def sumN : List Nat → Nat
  | [] => 0
  | x :: l => x + sumN l
def usersOf (L : List PM) : List ByteArray := (L.filter fun p => userI p.1).map fun p => userN p.1
theorem known_eq {nx : Int} {L0 : List PM} : ∀ (L : List PM) (t : Nat), knownM nx L0 t L = if (usersOf L).all (fun u => layF nx u S0 L0) = true then some (t + sumN ((usersOf L).map fun u => ownN u L0)) else none
  | [], t => rfl
  | p :: L, t => by
    unfold knownM
    cases hu : userI p.1 with
    | false =>
      have h1 : usersOf (p :: L) = usersOf L := by unfold usersOf; rw [List.filter_cons_of_neg (by simp [hu])]
      rw [if_neg (by simp), h1]
      exact known_eq L t
    | true =>
      have h1 : usersOf (p :: L) = userN p.1 :: usersOf L := by unfold usersOf; rw [List.filter_cons_of_pos (by simp [hu])]; rfl
      rw [if_pos rfl, h1, List.all_cons, List.map_cons]
      cases hl : layF nx (userN p.1) S0 L0 with
      | false => simp
      | true =>
        rw [if_pos rfl, known_eq L, aside_own hl, Bool.true_and]
        show _ = if _ then some (t + (ownN (userN p.1) L0 + sumN _)) else none
        rw [Nat.add_assoc]
def own1 (Us : List ByteArray) (q : PM) : Nat := (Us.filter fun u => isOwn u q).length
theorem swap_one (q : PM) (L : List PM) : ∀ Us : List ByteArray, sumN (Us.map fun u => ownN u (q :: L)) = own1 Us q + sumN (Us.map fun u => ownN u L)
  | [] => rfl
  | u :: Us => by
    have ih := swap_one q L Us
    rw [List.map_cons, List.map_cons]
    show ownN u (q :: L) + sumN _ = _ + (ownN u L + sumN _)
    rw [ih]
    unfold ownN own1
    cases h : isOwn u q with
    | true => simp only [List.filter_cons, h, if_true, List.length_cons]; omega
    | false => simp only [List.filter_cons, h, Bool.false_eq_true, if_false]; omega
theorem swap_all (Us : List ByteArray) : ∀ L : List PM, sumN (Us.map fun u => ownN u L) = sumN (L.map (own1 Us))
  | [] => by
    induction Us with
    | nil => rfl
    | cons u Us ih => rw [List.map_cons]; show 0 + sumN _ = _; rw [ih]; rfl
  | q :: L => by rw [swap_one, swap_all Us L]; rfl
theorem own1_none {q : PM} : ∀ {Us : List ByteArray}, (∀ u ∈ Us, ownerM q ≠ some u) → own1 Us q = 0
  | Us, h => by
    unfold own1
    rw [List.length_eq_zero_iff, List.filter_eq_nil_iff]
    intro u hu
    simp [isOwn, h u hu]
theorem own1_le {q : PM} : ∀ {Us : List ByteArray}, Us.Nodup → own1 Us q ≤ 1 ∧ (own1 Us q = 1 ↔ ∃ u ∈ Us, ownerM q = some u)
  | [], _ => by simp [own1]
  | u :: Us, h => by
    obtain ⟨h1, h2⟩ := List.nodup_cons.1 h
    have ih := own1_le (q := q) h2
    by_cases ho : ownerM q = some u
    · have h3 : own1 Us q = 0 := own1_none fun z hz e => by
        rw [ho] at e
        cases e
        exact h1 hz
      have h4 : own1 (u :: Us) q = 1 := by
        unfold own1 at h3 ⊢
        rw [List.filter_cons_of_pos (by simp [isOwn, ho]), List.length_cons, h3]
      rw [h4]
      exact ⟨Nat.le_refl _, fun _ => ⟨u, List.mem_cons_self, ho⟩, fun _ => rfl⟩
    · have h4 : own1 (u :: Us) q = own1 Us q := by
        unfold own1
        rw [List.filter_cons_of_neg (by simp [isOwn, ho])]
      rw [h4]
      refine ⟨ih.1, ih.2.trans ?_⟩
      constructor
      · rintro ⟨z, hz, e⟩; exact ⟨z, List.mem_cons_of_mem _ hz, e⟩
      · rintro ⟨z, hz, e⟩
        rcases List.mem_cons.1 hz with rfl | hz
        · exact absurd e ho
        · exact ⟨z, hz, e⟩
theorem sum_full (f : PM → Nat) : ∀ L : List PM, (∀ q ∈ L, f q ≤ 1) → (sumN (L.map f) ≤ L.length ∧ (sumN (L.map f) = L.length ↔ ∀ q ∈ L, f q = 1))
  | [], _ => by simp [sumN]
  | q :: L, h => by
    obtain ⟨h1, h2⟩ := sum_full f L fun x hx => h x (List.mem_cons_of_mem _ hx)
    have h3 := h q List.mem_cons_self
    rw [List.map_cons, List.length_cons]
    show f q + sumN _ ≤ _ ∧ (f q + sumN _ = _ ↔ _)
    refine ⟨by omega, ?_⟩
    constructor
    · intro h4 x hx
      rcases List.mem_cons.1 hx with rfl | hx
      · omega
      · exact h2.1 (by omega) x hx
    · intro h4
      have h5 := h2.2 fun x hx => h4 x (List.mem_cons_of_mem _ hx)
      have h6 := h4 q List.mem_cons_self
      omega
theorem sum_add (f g : PM → Nat) : ∀ L : List PM, sumN (L.map fun q => f q + g q) = sumN (L.map f) + sumN (L.map g)
  | [] => rfl
  | q :: L => by
    have ih := sum_add f g L
    rw [List.map_cons, List.map_cons, List.map_cons]
    show (f q + g q) + sumN _ = (f q + sumN _) + (g q + sumN _)
    omega
theorem sum_one {k : ByteArray} : ∀ {L : List PM}, UpL L → (∃ q ∈ L, q.1 = k) → sumN (L.map fun q => if q.1 = k then 1 else 0) = 1
  | [], _, ⟨_, h, _⟩ => by cases h
  | q :: L, hu, hx => by
    obtain ⟨h1, h2⟩ := List.pairwise_cons.1 hu
    rw [List.map_cons]
    show (if q.1 = k then 1 else 0) + sumN _ = 1
    by_cases e : q.1 = k
    · rw [if_pos e]
      have h3 : ∀ z ∈ L, z.1 ≠ k := fun z hz e9 => by
        have h9 := h1 z hz
        rw [e, e9] at h9
        exact ltK_irrefl _ h9
      have h4 : ∀ {M : List PM}, (∀ z ∈ M, z.1 ≠ k) → sumN (M.map fun q => if q.1 = k then 1 else 0) = 0 := by
        intro M hM
        induction M with
        | nil => rfl
        | cons z M ih =>
          rw [List.map_cons]
          show (if z.1 = k then 1 else 0) + sumN _ = 0
          rw [if_neg (hM z List.mem_cons_self), ih fun y hy => hM y (List.mem_cons_of_mem _ hy)]
      rw [h4 h3]
    · rw [if_neg e]
      obtain ⟨z, hz, ez⟩ := hx
      rcases List.mem_cons.1 hz with rfl | hz
      · exact absurd ez e
      · rw [sum_one h2 ⟨z, hz, ez⟩]
theorem userI_key {k : ByteArray} (h : userI k = true) : k = userK (userN k) := by
  unfold userI Lib.hasPrefix at h
  obtain ⟨r, hr⟩ := List.isPrefixOf_iff_prefix.1 h
  have h2 : (userN k).data.toList = r := by
    unfold userN Lib.trimPrefix Lib.hasPrefix
    rw [if_pos h, ← hr]
    rfl
  apply bs_inj
  rw [← hr, show (userK (userN k)).data.toList = 117 :: 47 :: (userN k).data.toList by simp [userK, ByteArray.data_append], h2]
  rfl
theorem userI_of (u : ByteArray) : userI (userK u) = true ∧ userN (userK u) = u := by
  have h1 : (userK u).data.toList = 117 :: 47 :: u.data.toList := by simp [userK, ByteArray.data_append]
  have h2 : userI (userK u) = true := by
    unfold userI Lib.hasPrefix
    rw [h1]
    simp
  refine ⟨h2, bs_inj ?_⟩
  unfold userN Lib.trimPrefix
  unfold userI at h2
  rw [if_pos h2, h1]
  rfl
theorem users_mem {L : List PM} {u : ByteArray} : u ∈ usersOf L ↔ ∃ q ∈ L, q.1 = userK u := by
  unfold usersOf
  rw [List.mem_map]
  constructor
  · rintro ⟨q, hq, rfl⟩
    rw [List.mem_filter] at hq
    exact ⟨q, hq.1, userI_key hq.2⟩
  · rintro ⟨q, hq, e⟩
    refine ⟨q, List.mem_filter.2 ⟨hq, ?_⟩, ?_⟩
    · rw [e]; exact (userI_of u).1
    · rw [e]; exact (userI_of u).2
theorem users_nodup {L : List PM} (hu : UpL L) : (usersOf L).Nodup := by
  unfold usersOf
  rw [List.Nodup, List.pairwise_map]
  have h1 : (L.filter fun p => userI p.1).Pairwise fun x y => ltK x.1 y.1 := List.Pairwise.filter _ hu
  refine List.Pairwise.imp_of_mem ?_ h1
  intro x y hx hy hlt e
  rw [List.mem_filter] at hx hy
  rw [userI_key hx.2, userI_key hy.2, e] at hlt
  exact ltK_irrefl _ hlt
theorem owner_v {q : PM} (h : q.1 = vK) : ownerM q = none := by
  unfold ownerM
  rw [h]
  rfl
/-- What the program's count tells. -/
theorem known_iff {nx : Int} {L : List PM} (hn : nx = nextM L) (hu : UpL L) (hv : ∃ q ∈ L, q.1 = vK) :
    knownB L = true ↔ (∀ u, (∃ q ∈ L, q.1 = userK u) → layF nx u S0 L = true) ∧ ∀ q ∈ L, q.1 = vK ∨ ∃ u, ownerM q = some u ∧ ∃ z ∈ L, z.1 = userK u := by
  unfold knownB
  rw [← hn, known_eq]
  have hnd := users_nodup hu
  have h1 := sum_one hu hv
  have h2 := sum_add (own1 (usersOf L)) (fun q => if q.1 = vK then 1 else 0) L
  have hle : ∀ q ∈ L, own1 (usersOf L) q + (if q.1 = vK then 1 else 0) ≤ 1 := fun q hq => by
    by_cases e : q.1 = vK
    · rw [if_pos e, own1_none fun u hu9 h9 => by rw [owner_v e] at h9; cases h9]
      exact Nat.le_refl _
    · rw [if_neg e]; exact (own1_le hnd).1
  have h3 := sum_full (fun q => own1 (usersOf L) q + (if q.1 = vK then 1 else 0)) L hle
  have hall : (usersOf L).all (fun u => layF nx u S0 L) = true ↔ ∀ u, (∃ q ∈ L, q.1 = userK u) → layF nx u S0 L = true := by
    rw [List.all_eq_true]
    exact ⟨fun h u hx => h u (users_mem.2 hx), fun h u hx => h u (users_mem.1 hx)⟩
  have hq : (∀ q ∈ L, own1 (usersOf L) q + (if q.1 = vK then 1 else 0) = 1) ↔ ∀ q ∈ L, q.1 = vK ∨ ∃ u, ownerM q = some u ∧ ∃ z ∈ L, z.1 = userK u := by
    constructor
    · intro h q hq
      by_cases e : q.1 = vK
      · exact .inl e
      · have h9 := h q hq
        rw [if_neg e, Nat.add_zero] at h9
        obtain ⟨u, h7, h6⟩ := (own1_le hnd).2.1 h9
        exact .inr ⟨u, h6, users_mem.1 h7⟩
    · intro h q hq
      rcases h q hq with e | ⟨u, h7, h6⟩
      · rw [if_pos e, own1_none fun u hu9 h9 => by rw [owner_v e] at h9; cases h9]
      · have e : q.1 ≠ vK := fun e => by rw [owner_v e] at h7; cases h7
        rw [if_neg e, Nat.add_zero]
        exact (own1_le hnd).2.2 ⟨u, users_mem.2 h6, h7⟩
  rw [← hall, ← hq, ← h3.2, h2, h1, swap_all]
  by_cases ha : (usersOf L).all (fun u => layF nx u S0 L) = true
  · rw [if_pos ha]
    simp only [ha, true_and, decide_eq_true_eq]
    omega
  · rw [if_neg ha]
    simp [ha]
theorem split_back {c : UInt8} : ∀ {l a b : List UInt8} {r : List (List UInt8)}, splitL c l = a :: b :: r → ∃ rest, l = a ++ c :: rest ∧ splitL c rest = b :: r ∧ c ∉ a
  | [], a, b, r, h => by cases h
  | x :: l, a, b, r, h => by
    unfold splitL at h
    by_cases e : x = c
    · rw [if_pos e] at h
      injection h with h1 h2
      exact ⟨l, by rw [e, ← h1]; rfl, h2, by rw [← h1]; simp⟩
    · rw [if_neg e] at h
      split at h
      · cases h
      · rename_i hd t h1
        injection h with k1 k2
        rw [k2] at h1
        obtain ⟨rest, h2, h3, h4⟩ := split_back h1
        exact ⟨rest, by rw [h2, ← k1]; rfl, h3, fun h9 => by
          rw [← k1] at h9
          rcases List.mem_cons.1 h9 with h9 | h9
          · exact e h9.symm
          · exact h4 h9⟩
theorem split_one {c : UInt8} {l a : List UInt8} (h : splitL c l = [a]) : l = a ∧ c ∉ a := by
  have h1 := splitL_length c l
  rw [h] at h1
  have h2 : c ∉ l := List.count_eq_zero.1 (by simp at h1; omega)
  have h3 := splitL_whole c l h2
  rw [h] at h3
  cases h3
  exact ⟨rfl, h2⟩
theorem dec_space : ∀ {l : List UInt8} {acc u : Nat}, decFrom acc l = some u → (32 : UInt8) ∉ l
  | [], _, _, _ => by simp
  | c :: l, acc, u, h => by
    unfold decFrom at h
    intro h9
    cases hd : digitVal c with
    | none => rw [hd] at h; cases h
    | some d =>
      rw [hd] at h
      rcases List.mem_cons.1 h9 with h9 | h9
      · rw [← h9] at hd
        rw [show digitVal 32 = none by decide] at hd
        cases hd
      · exact dec_space h h9
theorem num_space {t : List UInt8} {n : Int} (h : numB t = some n) : (32 : UInt8) ∉ t := by
  have hm : ∀ {neg : Bool} {ds : List UInt8} {n : Int}, magB neg ds = some n → (32 : UInt8) ∉ ds := by
    intro neg ds n h
    unfold magB at h
    split at h
    · cases h
    · obtain ⟨u, h1, _⟩ := Option.map_eq_some_iff.1 h
      exact dec_space h1
  match t, h with
  | [], _ => simp
  | c :: r, h =>
    have h : (if c = 45 then magB true r else magB false (c :: r)) = some n := h
    split at h
    · rename_i e
      intro h9
      rcases List.mem_cons.1 h9 with h9 | h9
      · rw [e] at h9; exact absurd h9 (by decide)
      · exact hm h h9
    · exact hm h
theorem metaN_some {a b : Option Int} {p : Int × Int} : metaN a b = some p ↔ a = some p.1 ∧ b = some p.2 ∧ 1 ≤ p.1 ∧ p.1 ≤ 9999 ∧ 1 ≤ p.2 ∧ p.2 ≤ 999 := by
  match a, b with
  | none, none => simp [metaN]
  | none, some _ => simp [metaN]
  | some _, none => simp [metaN]
  | some x, some y =>
    show (if _ then _ else _) = _ ↔ _
    constructor
    · intro h
      obtain ⟨h1, rfl⟩ := ite_some h
      exact ⟨rfl, rfl, h1.1, h1.2.1, h1.2.2.1, h1.2.2.2⟩
    · rintro ⟨h1, h2, h3, h4, h5, h6⟩
      cases h1; cases h2
      rw [if_pos ⟨h3, h4, h5, h6⟩]
theorem folderN_some {nx : Int} {name : ByteArray} {a b : Option Int} {f : FM} : folderN nx name a b = some f ↔ shortB name = true ∧ a = some f.val ∧ b = some f.next ∧ 1 ≤ f.val ∧ f.val ≤ nx - 1 ∧ 1 ≤ f.next ∧ f.next ≤ 999 ∧ f = ⟨name, f.val, f.next, []⟩ := by
  match a, b with
  | none, none => simp [folderN]
  | none, some _ => simp [folderN]
  | some _, none => simp [folderN]
  | some x, some y =>
    show (if _ then _ else _) = _ ↔ _
    constructor
    · intro h
      obtain ⟨h1, rfl⟩ := ite_some h
      exact ⟨h1.1, rfl, rfl, h1.2.1, h1.2.2.1, h1.2.2.2.1, h1.2.2.2.2, rfl⟩
    · rintro ⟨h1, h2, h3, h4, h5, h6, h7, h8⟩
      cases h2; cases h3
      rw [if_pos ⟨h1, h4, h5, h6, h7⟩]
      exact congrArg some h8.symm
theorem folder_meta {nx : Int} (hnx : nx ≤ 10000) {name v : ByteArray} {f : FM} : folderM nx name v = some f ↔ shortB name = true ∧ metaV v = some (f.val, f.next) ∧ f.val < nx ∧ f = ⟨name, f.val, f.next, []⟩ := by
  unfold folderM metaV
  rw [folderN_some]
  match hs : splitL 32 v.data.toList with
  | [] => exact absurd hs (splitL_ne 32 _)
  | [a] =>
    obtain ⟨h1, h2⟩ := split_one hs
    rw [h1, cut_no 32 a h2]
    constructor
    · rintro ⟨_, _, h, _⟩; cases h
    · rintro ⟨_, h, _⟩; cases h
  | a :: b :: r =>
    obtain ⟨rest, h1, h2, h3⟩ := split_back hs
    rw [h1, cut_yes 32 a rest h3]
    match r, h2 with
    | [], h2 =>
      obtain ⟨h4, h5⟩ := split_one h2
      subst h4
      show _ ↔ _ ∧ metaN (numB a) (numB rest) = _ ∧ _
      rw [metaN_some]
      constructor
      · rintro ⟨k1, k2, k3, k4, k5, k6, k7, k8⟩
        exact ⟨k1, ⟨k2, k3, k4, by show f.val ≤ 9999; omega, k6, k7⟩, by omega, k8⟩
      · rintro ⟨k1, ⟨k2, k3, k4, k5, k6, k7⟩, k8, k9⟩
        exact ⟨k1, k2, k3, k4, by omega, k6, k7, k9⟩
    | c :: r, h2 =>
      constructor
      · rintro ⟨_, _, h, _⟩
        have h9 := num_space h
        obtain ⟨rest2, h7, _⟩ := split_back h2
        exact absurd (by show (32 : UInt8) ∈ rest; rw [h7]; simp) h9
      · rintro ⟨_, h, _⟩; cases h
theorem meta_text {v : ByteArray} {p : Int × Int} (h : metaV v = some p) : v = metaT p.1 p.2 := by
  unfold metaV at h
  match hs : splitL 32 v.data.toList, h with
  | [a, b], h =>
    obtain ⟨h1, h2, _⟩ := metaN_some.1 h
    obtain ⟨rest, h3, h4, _⟩ := split_back hs
    obtain ⟨h5, _⟩ := split_one h4
    have h6 := (is_of_num h1).1
    have h7 := (is_of_num h2).1
    apply bs_inj
    unfold metaT
    rw [h3, h5, h6, h7]
    simp [ByteArray.data_append]
    rfl
theorem key_user {k : ByteArray} {b : List UInt8} (h : splitL 47 k.data.toList = [[117], b]) : k = userK (bs b) ∧ (47 : UInt8) ∉ b := by
  obtain ⟨r, h1, h2, _⟩ := split_back h
  obtain ⟨h3, h4⟩ := split_one h2
  refine ⟨bs_inj ?_, h4⟩
  rw [h1, h3]
  simp [userK, ByteArray.data_append]
  rfl
theorem key_folder {k : ByteArray} {b c : List UInt8} (h : splitL 47 k.data.toList = [[102], b, c]) : k = folderK (bs b) (bs c) ∧ (47 : UInt8) ∉ b ∧ (47 : UInt8) ∉ c := by
  obtain ⟨r, h1, h2, _⟩ := split_back h
  obtain ⟨r2, h3, h4, h5⟩ := split_back h2
  obtain ⟨h6, h7⟩ := split_one h4
  refine ⟨bs_inj ?_, h5, h7⟩
  rw [folderK_data, h1, h3, h6]
  rfl
theorem key_mail {k : ByteArray} {b c d : List UInt8} (h : splitL 47 k.data.toList = [[109], b, c, d]) : k.data.toList = 109 :: 47 :: (b ++ 47 :: (c ++ 47 :: d)) ∧ (47 : UInt8) ∉ b ∧ (47 : UInt8) ∉ c := by
  obtain ⟨r, h1, h2, _⟩ := split_back h
  obtain ⟨r2, h3, h4, h5⟩ := split_back h2
  obtain ⟨r3, h6, h7, h8⟩ := split_back h4
  obtain ⟨h9, _⟩ := split_one h7
  exact ⟨by rw [h1, h3, h6, h9]; rfl, h5, h8⟩
theorem parts_user {u : ByteArray} (h : (47 : UInt8) ∉ u.data.toList) : splitL 47 (userK u).data.toList = [[117], u.data.toList] := by
  have h1 : (userK u).data.toList = [117] ++ 47 :: u.data.toList := by simp [userK, ByteArray.data_append]
  rw [h1, splitL_seg 47 [117] _ (by decide), splitL_whole 47 _ h]
theorem parts_folder {u f : ByteArray} (h : (47 : UInt8) ∉ u.data.toList) (h2 : (47 : UInt8) ∉ f.data.toList) : splitL 47 (folderK u f).data.toList = [[102], u.data.toList, f.data.toList] := by
  have h1 : (folderK u f).data.toList = [102] ++ 47 :: (u.data.toList ++ 47 :: f.data.toList) := by rw [folderK_data]; rfl
  rw [h1, splitL_seg 47 [102] _ (by decide), splitL_seg 47 _ _ h, splitL_whole 47 _ h2]
/-- What an owned pair must be. -/
def okG (nx : Int) (u : ByteArray) (L : List PM) (v : ByteArray) : List (List UInt8) → Prop
  | [_, _] => shortB u = true ∧ shortB v = true
  | [_, _, c] => ∃ f, folderM nx (bs c) v = some f
  | [_, _, c, d] => ∃ w f, (folderK u (bs c), w) ∈ L ∧ folderM nx (bs c) w = some f ∧ (mailO f d v).isSome = true
  | _ => False
def isMailG (u : ByteArray) : List (List UInt8) → Bool
  | [a, b, _, _] => decide (a = [109] ∧ bs b = u)
  | _ => false
abbrev isMail (u : ByteArray) (q : PM) : Bool := isMailG u (splitL 47 q.1.data.toList)
structure Inv (nx : Int) (u : ByteArray) (P : List PM) (S : SM) : Prop where
  a : ∀ name f', lookF name S.fs = some f' → ∃ w f, (folderK u name, w) ∈ P ∧ folderM nx name w = some f ∧ f'.next = f.next
  b : ∀ name w, (47 : UInt8) ∉ name.data.toList → (folderK u name, w) ∈ P → (lookF name S.fs).isSome = true
  c : sumF S.fs = (P.filter (isMail u)).length
theorem mailO_next {f f' : FM} {d : List UInt8} {v : ByteArray} (h : f'.next = f.next) : (mailO f' d v).isSome = (mailO f d v).isSome := by
  unfold mailO
  rw [h]
  cases decFrom 0 d with
  | none => rfl
  | some n =>
    simp only [Option.bind_some]
    split <;> rfl
theorem lookF_put {g : FM} {n : ByteArray} : ∀ {fs : List FM}, lookF n (putF g fs) = if g.name = n then some g else lookF n fs
  | [] => by
    unfold putF lookF
    rfl
  | f :: fs => by
    have ih := lookF_put (g := g) (n := n) (fs := fs)
    unfold putF
    by_cases e : f.name = g.name
    · rw [if_pos e]
      unfold lookF
      by_cases h : g.name = n
      · rw [if_pos h, if_pos h]
      · rw [if_neg h, if_neg h, if_neg (by rw [e]; exact h)]
    · rw [if_neg e]
      unfold lookF
      by_cases h : f.name = n
      · rw [if_pos h, if_pos h, if_neg (by rw [← h]; exact fun h9 => e h9.symm)]
      · rw [if_neg h, if_neg h]
        exact ih
theorem sum_fresh {g : FM} : ∀ {fs : List FM}, lookF g.name fs = none → sumF (putF g fs) = sumF fs + g.mails.length
  | [], _ => by simp [putF, sumF]
  | f :: fs, h => by
    unfold lookF at h
    by_cases e : f.name = g.name
    · rw [if_pos e] at h; cases h
    · rw [if_neg e] at h
      unfold putF
      rw [if_neg e]
      unfold sumF
      have := sum_fresh h
      omega
theorem filter_snoc {α : Type} (f : α → Bool) (P : List α) (q : α) : ((P ++ [q]).filter f).length = (P.filter f).length + if f q = true then 1 else 0 := by
  rw [List.filter_append, List.length_append]
  cases h : f q <;> simp [h]
theorem key_one {L : List PM} (hu : UpL L) {k v w : ByteArray} (h1 : (k, v) ∈ L) (h2 : (k, w) ∈ L) : v = w := by
  have h3 := (getM_mem hu).2 h1
  rw [(getM_mem hu).2 h2] at h3
  exact (Option.some.inj h3).symm
theorem owner_folder {u name w : ByteArray} (hus : (47 : UInt8) ∉ u.data.toList) (hn : (47 : UInt8) ∉ name.data.toList) : ownerM (folderK u name, w) = some u := by
  unfold ownerM
  rw [parts_folder hus hn]
  rfl
theorem mail_owner {u : ByteArray} {q : PM} (h : isMail u q = true) : ownerM q = some u := by
  unfold isMail at h
  unfold ownerM
  match hG : splitL 47 q.1.data.toList, h with
  | [a, b, c, d], h =>
    have h9 := of_decide_eq_true h
    show (if a = [109] then some (bs b) else none) = _
    rw [if_pos h9.1, h9.2]
theorem take_step {nx : Int} {u : ByteArray} {L P R : List PM} {q : PM} {S : SM} (hnx : nx ≤ 10000) (hu : UpL L) (hL : L = P ++ q :: R) (hus : (47 : UInt8) ∉ u.data.toList) (hI : Inv nx u P S) (ho : ownerM q = some u) :
    ((takeM nx u S q).isSome = true ↔ okG nx u L q.2 (splitL 47 q.1.data.toList)) ∧ ∀ S', takeM nx u S q = some S' → Inv nx u (P ++ [q]) S' := by
  have hpq : ∀ z ∈ P, ltK z.1 q.1 := fun z hz => by
    rw [hL] at hu
    exact (List.pairwise_append.1 hu).2.2 z hz q List.mem_cons_self
  have hqr : ∀ z ∈ R, ltK q.1 z.1 := fun z hz => by
    rw [hL] at hu
    exact (List.pairwise_cons.1 (List.pairwise_append.1 hu).2.1).1 z hz
  have hPL : ∀ z ∈ P, z ∈ L := fun z hz => by rw [hL]; exact List.mem_append_left _ hz
  unfold takeM
  unfold ownerM at ho
  match hG : splitL 47 q.1.data.toList, ho with
  | [a, b], ho =>
    obtain ⟨h1, h2⟩ := ite_some ho
    subst h1
    have h3 : takeP nx u S q [[117], b] = userM u S q.2 := if_pos ⟨h2, rfl⟩
    have hmf : isMail u q = false := by unfold isMail; rw [hG]; rfl
    rw [h3]
    unfold userM
    constructor
    · show _ ↔ shortB u = true ∧ shortB q.2 = true
      rw [← Bool.and_eq_true]
      split
      · simp_all
      · simp_all
    · intro S' hS
      obtain ⟨_, rfl⟩ := ite_some hS
      refine ⟨fun name f' hf => ?_, fun name w hn hm => ?_, ?_⟩
      · obtain ⟨w, f, k1, k2⟩ := hI.a name f' hf
        exact ⟨w, f, List.mem_append_left _ k1, k2⟩
      · rcases List.mem_append.1 hm with hm | hm
        · exact hI.b name w hn hm
        · have h9 := List.mem_singleton.1 hm
          rw [← h9, parts_folder hus hn] at hG
          cases hG
      · show sumF S.fs = _
        rw [filter_snoc, hmf, hI.c]
        simp
  | [a, b, c], ho =>
    obtain ⟨h1, h2⟩ := ite_some ho
    subst h1
    have h3 : takeP nx u S q [[102], b, c] = putM S (folderM nx (bs c) q.2) := if_pos ⟨h2, rfl⟩
    have hmf : isMail u q = false := by unfold isMail; rw [hG]; rfl
    obtain ⟨hk, hnb, hnc⟩ := key_folder hG
    rw [h2] at hk
    rw [h3]
    unfold putM
    constructor
    · rw [Option.isSome_map]
      exact Option.isSome_iff_exists
    · intro S' hS
      obtain ⟨g, hg, rfl⟩ := Option.map_eq_some_iff.1 hS
      have hgf := (folder_meta hnx).1 hg
      have hgn : g.name = bs c := by rw [hgf.2.2.2]
      have hgm : g.mails.length = 0 := by rw [hgf.2.2.2]; rfl
      have hno : lookF g.name S.fs = none := by
        rw [hgn]
        cases hl : lookF (bs c) S.fs with
        | none => rfl
        | some f' =>
          obtain ⟨w, f, k1, _⟩ := hI.a _ _ hl
          have k3 := hpq _ k1
          rw [hk] at k3
          exact absurd k3 (ltK_irrefl _)
      have hqe : (folderK u (bs c), q.2) = q := Prod.ext hk.symm rfl
      refine ⟨fun name f' hf => ?_, fun name w hn hm => ?_, ?_⟩
      · have hf2 : (if g.name = name then some g else lookF name S.fs) = some f' := lookF_put.symm.trans hf
        split at hf2
        · rename_i e
          cases hf2
          rw [hgn] at e
          subst e
          exact ⟨q.2, g, by rw [hqe]; exact List.mem_append_right _ (List.mem_singleton.2 rfl), hg, rfl⟩
        · obtain ⟨w, f, k1, k2⟩ := hI.a name f' hf2
          exact ⟨w, f, List.mem_append_left _ k1, k2⟩
      · show (lookF name (putF g S.fs)).isSome = true
        rw [lookF_put]
        split
        · rfl
        · rename_i e
          rcases List.mem_append.1 hm with hm | hm
          · exact hI.b name w hn hm
          · have h9 := List.mem_singleton.1 hm
            have h8 : folderK u name = folderK u (bs c) := by rw [← hk, ← h9]
            exact absurd (by rw [hgn, folderK_inj h8]) e
      · show sumF (putF g S.fs) = _
        rw [filter_snoc, hmf, sum_fresh hno, hgm, hI.c]
        simp
  | [a, b, c, d], ho =>
    obtain ⟨h1, h2⟩ := ite_some ho
    subst h1
    have h3 : takeP nx u S q [[109], b, c, d] = putM S (mailM S.fs (bs c) (bs d) q.2) := if_pos ⟨h2, rfl⟩
    have hmf : isMail u q = true := by
      unfold isMail
      rw [hG]
      exact decide_eq_true ⟨rfl, h2⟩
    obtain ⟨hk, hnb, hnc⟩ := key_mail hG
    rw [h3]
    unfold putM mailM
    constructor
    · rw [Option.isSome_map]
      show _ ↔ ∃ w f, (folderK u (bs c), w) ∈ L ∧ folderM nx (bs c) w = some f ∧ (mailO f d q.2).isSome = true
      constructor
      · intro h
        cases hl : lookF (bs c) S.fs with
        | none => rw [hl] at h; cases h
        | some f' =>
          rw [hl] at h
          obtain ⟨w, f, k1, k2, k3⟩ := hI.a _ _ hl
          exact ⟨w, f, hPL _ k1, k2, by rw [← mailO_next k3]; exact h⟩
      · rintro ⟨w, f, k1, k2, k3⟩
        have hP : (folderK u (bs c), w) ∈ P := by
          rw [hL] at k1
          rcases List.mem_append.1 k1 with k1 | k1
          · exact k1
          · exfalso
            have hne : ∀ k : ByteArray, k.data.toList = 109 :: 47 :: (b ++ 47 :: (c ++ 47 :: d)) → ¬ ltK k (folderK u (bs c)) ∧ k ≠ folderK u (bs c) := fun k hk => by
              refine ⟨fun h9 => ?_, fun h9 => ?_⟩
              · unfold ltK at h9
                rw [ByteArray.toList_eq, ByteArray.toList_eq, folderK_data, hk] at h9
                simp [Op.bytesLess] at h9
              · rw [h9, folderK_data] at hk
                simp at hk
            rcases List.mem_cons.1 k1 with k1 | k1
            · exact (hne _ hk).2 (by rw [← k1])
            · exact (hne _ hk).1 (hqr _ k1)
        obtain ⟨f', hl⟩ := Option.isSome_iff_exists.1 (hI.b (bs c) w hnc hP)
        obtain ⟨w', f2, m1, m2, m3⟩ := hI.a _ _ hl
        obtain rfl := key_one hu (hPL _ hP) (hPL _ m1)
        rw [k2] at m2
        cases m2
        rw [hl]
        show (mailO f' d q.2).isSome = true
        rw [mailO_next m3]
        exact k3
    · intro S' hS
      obtain ⟨g, hg, rfl⟩ := Option.map_eq_some_iff.1 hS
      obtain ⟨f', hl, hg2⟩ := Option.bind_eq_some_iff.1 hg
      obtain ⟨un, _, _, _, _, _, _, _, _, hgm⟩ := mailO_some hg2
      have hfn := (lookF_mem hl).2
      have hgn : g.name = bs c := by rw [hgm]; exact hfn
      have hgx : g.next = f'.next := by rw [hgm]; rfl
      have hgl : g.mails.length = f'.mails.length + 1 := by rw [hgm]; exact List.length_append
      have hl2 : lookF g.name S.fs = some f' := by rw [hgn]; exact hl
      refine ⟨fun name f2 hf => ?_, fun name w hn hm => ?_, ?_⟩
      · have hf2 : (if g.name = name then some g else lookF name S.fs) = some f2 := lookF_put.symm.trans hf
        split at hf2
        · rename_i e
          cases hf2
          rw [hgn] at e
          subst e
          obtain ⟨w, f, k1, k2, k3⟩ := hI.a _ _ hl
          exact ⟨w, f, List.mem_append_left _ k1, k2, hgx.trans k3⟩
        · obtain ⟨w, f, k1, k2⟩ := hI.a name f2 hf2
          exact ⟨w, f, List.mem_append_left _ k1, k2⟩
      · show (lookF name (putF g S.fs)).isSome = true
        rw [lookF_put]
        split
        · rfl
        · rcases List.mem_append.1 hm with hm | hm
          · exact hI.b name w hn hm
          · have h9 := List.mem_singleton.1 hm
            rw [← h9, parts_folder hus hn] at hG
            cases hG
      · show sumF (putF g S.fs) = _
        have h9 := sum_old hl2
        rw [filter_snoc, hmf, ← hI.c, if_pos rfl]
        omega
theorem aside_step {nx : Int} {u : ByteArray} {P : List PM} {q : PM} {S S' : SM} (hus : (47 : UInt8) ∉ u.data.toList) (hI : Inv nx u P S) (ho : ownerM q ≠ some u) (h : asideM S q = some S') : Inv nx u (P ++ [q]) S' := by
  cases h
  refine ⟨fun name f' hf => ?_, fun name w hn hm => ?_, ?_⟩
  · obtain ⟨w, f, k1, k2⟩ := hI.a name f' hf
    exact ⟨w, f, List.mem_append_left _ k1, k2⟩
  · rcases List.mem_append.1 hm with hm | hm
    · exact hI.b name w hn hm
    · have h9 := List.mem_singleton.1 hm
      exact absurd (by rw [← h9]; exact owner_folder hus hn) ho
  · have hmf : isMail u q = false := by
      cases h9 : isMail u q with
      | false => rfl
      | true => exact absurd (mail_owner h9) ho
    show sumF S.fs = _
    rw [filter_snoc, hmf, hI.c]
    simp
theorem all_step {nx : Int} {u : ByteArray} {L : List PM} (hnx : nx ≤ 10000) (hu : UpL L) (hus : (47 : UInt8) ∉ u.data.toList) : ∀ (R P : List PM) (S : SM), L = P ++ R → Inv nx u P S →
    ((takeAll nx u S R).isSome = true ↔ ∀ q ∈ R, ownerM q = some u → okG nx u L q.2 (splitL 47 q.1.data.toList)) ∧ ∀ S', takeAll nx u S R = some S' → Inv nx u L S'
  | [], P, S, hL, hI => by
    refine ⟨⟨fun _ q hq => (by cases hq), fun _ => rfl⟩, fun S' h => ?_⟩
    cases h
    rw [hL, List.append_nil]
    exact hI
  | q :: R, P, S, hL, hI => by
    have hL2 : L = (P ++ [q]) ++ R := by rw [hL]; simp
    unfold takeAll
    by_cases ho : ownerM q = some u
    · obtain ⟨h1, h2⟩ := take_step hnx hu hL hus hI ho
      cases ht : takeM nx u S q with
      | none =>
        rw [ht] at h1
        constructor
        · constructor
          · intro h; cases h
          · intro h
            exact absurd (h1.2 (h q List.mem_cons_self ho)) (by simp)
        · intro S' h; cases h
      | some S1 =>
        rw [ht] at h1
        obtain ⟨h3, h4⟩ := all_step hnx hu hus R (P ++ [q]) S1 hL2 (h2 S1 ht)
        refine ⟨h3.trans ?_, h4⟩
        constructor
        · intro h z hz hz2
          rcases List.mem_cons.1 hz with rfl | hz
          · exact h1.1 rfl
          · exact h z hz hz2
        · exact fun h z hz => h z (List.mem_cons_of_mem _ hz)
    · have ht : takeM nx u S q = asideM S q := take_other ho
      rw [ht]
      obtain ⟨h3, h4⟩ := all_step hnx hu hus R (P ++ [q]) _ hL2 (aside_step hus hI ho rfl)
      refine ⟨h3.trans ?_, h4⟩
      constructor
      · intro h z hz hz2
        rcases List.mem_cons.1 hz with rfl | hz
        · exact absurd hz2 ho
        · exact h z hz hz2
      · exact fun h z hz => h z (List.mem_cons_of_mem _ hz)
theorem lay_iff {nx : Int} {u : ByteArray} {L : List PM} (hnx : nx ≤ 10000) (hu : UpL L) (hus : (47 : UInt8) ∉ u.data.toList) :
    layF nx u S0 L = true ↔ (∀ q ∈ L, ownerM q = some u → okG nx u L q.2 (splitL 47 q.1.data.toList)) ∧ (∃ w f, (folderK u inboxT, w) ∈ L ∧ folderM nx inboxT w = some f) ∧ (L.filter (isMail u)).length ≤ 6 := by
  have hI : Inv nx u [] S0 := ⟨fun name f' hf => (by cases hf), fun name w _ hm => (by cases hm), rfl⟩
  obtain ⟨h1, h2⟩ := all_step hnx hu hus L [] S0 rfl hI
  unfold layF
  cases ht : takeAll nx u S0 L with
  | none =>
    rw [ht] at h1
    constructor
    · intro h; cases h
    · rintro ⟨h, _⟩; exact absurd (h1.2 h) (by simp)
  | some S' =>
    rw [ht] at h1
    have hI2 := h2 S' ht
    show ((lookF inboxT S'.fs).isSome && decide (sumF S'.fs ≤ 6)) = true ↔ _
    rw [Bool.and_eq_true, decide_eq_true_eq, hI2.c]
    constructor
    · rintro ⟨h3, h4⟩
      obtain ⟨f', hf⟩ := Option.isSome_iff_exists.1 h3
      obtain ⟨w, f, k1, k2, _⟩ := hI2.a _ _ hf
      exact ⟨h1.1 rfl, ⟨w, f, k1, k2⟩, h4⟩
    · rintro ⟨_, ⟨w, f, k1, k2⟩, h4⟩
      exact ⟨hI2.b _ w (by decide) k1, h4⟩
theorem get_some {L : List PM} (hu : UpL L) {k : ByteArray} : (getM L k).isSome = true ↔ ∃ q ∈ L, q.1 = k := by
  constructor
  · intro h
    obtain ⟨v, hv⟩ := Option.isSome_iff_exists.1 h
    exact ⟨(k, v), (getM_mem hu).1 hv, rfl⟩
  · rintro ⟨q, hq, rfl⟩
    rw [(getM_mem hu).2 (show (q.1, q.2) ∈ L from hq)]
    rfl
theorem meta_iff {L : List PM} (hu : UpL L) {u f : ByteArray} {p : Int × Int} : metaM L u f = some p ↔ ∃ w, (folderK u f, w) ∈ L ∧ metaV w = some p := by
  unfold metaM
  rw [Option.bind_eq_some_iff]
  constructor
  · rintro ⟨w, h1, h2⟩; exact ⟨w, (getM_mem hu).1 h1, h2⟩
  · rintro ⟨w, h1, h2⟩; exact ⟨w, (getM_mem hu).2 h1, h2⟩
/-- A key of two parts or more, its first a lone byte. -/
theorem kind_of {k : ByteArray} {c0 : UInt8} {rest : List UInt8} (h : k.data.toList = c0 :: 47 :: rest) (hr : rest ≠ []) : (decide (3 ≤ k.size) && slashB k) = true ∧ k.data.toList.headD 0 = c0 ∧ partsK k = splitL 47 rest ∧ k ≠ vK := by
  have h1 : k.size = rest.length + 2 := by rw [← bytes_len, h]; rfl
  have h2 : 1 ≤ rest.length := by cases rest with
    | nil => exact absurd rfl hr
    | cons => simp
  refine ⟨?_, by rw [h]; rfl, by unfold partsK; rw [h]; rfl, fun e => ?_⟩
  · rw [decide_eq_true (by omega)]
    unfold slashB
    rw [h]
    rfl
  · rw [e] at h
    cases h
theorem kind_back {k : ByteArray} (h : (decide (3 ≤ k.size) && slashB k) = true) : ∃ c0 rest, k.data.toList = c0 :: 47 :: rest ∧ rest ≠ [] := by
  rw [Bool.and_eq_true, decide_eq_true_eq, ← bytes_len] at h
  unfold slashB at h
  obtain ⟨h1, h2⟩ := h
  match hk : k.data.toList, h1, h2 with
  | a :: b :: c :: r, _, h2 =>
    have h3 : b = 47 := by simpa using h2
    exact ⟨a, c :: r, by rw [h3], by simp⟩
theorem parts_of {k : ByteArray} {c0 : UInt8} {rest : List UInt8} (h : k.data.toList = c0 :: 47 :: rest) (hc : c0 ≠ 47) : splitL 47 k.data.toList = [c0] :: splitL 47 rest := by
  rw [h]
  exact splitL_seg 47 [c0] rest (by simp; exact fun h9 => hc h9.symm)
/-- What the specification asks of a pair, by the key's parts. -/
def askG (L : List PM) (nx : Int) (v : ByteArray) : List (List UInt8) → Prop
  | [a, b] => a = [117] ∧ b ≠ [] ∧ pairU L v [b] = true
  | [a, b, c] => a = [102] ∧ pairF L nx v [b, c] = true
  | [a, b, c, d] => a = [109] ∧ pairE L v [b, c, d] = true
  | _ => False
theorem pair_iff {L : List PM} {nx : Int} {q : PM} (hq : q.1 ≠ vK) : pairB L nx q = true ↔ askG L nx q.2 (splitL 47 q.1.data.toList) := by
  unfold pairB
  rw [if_neg hq, Bool.and_eq_true]
  constructor
  · rintro ⟨h1, h2⟩
    obtain ⟨c0, rest, hk, hr⟩ := kind_back h1
    obtain ⟨_, k2, k3, _⟩ := kind_of hk hr
    unfold kindB at h2
    rw [k2, k3] at h2
    by_cases e1 : c0 = 117
    · rw [if_pos e1] at h2
      rw [parts_of hk (by rw [e1]; decide)]
      match hs : splitL 47 rest, h2 with
      | [b], h2 =>
        refine ⟨by rw [e1], ?_, h2⟩
        rw [← (split_one hs).1]
        exact hr
    rw [if_neg e1] at h2
    by_cases e2 : c0 = 102
    · rw [if_pos e2] at h2
      rw [parts_of hk (by rw [e2]; decide)]
      match hs : splitL 47 rest, h2 with
      | [b, c], h2 => exact ⟨by rw [e2], h2⟩
    rw [if_neg e2] at h2
    by_cases e3 : c0 = 109
    · rw [if_pos e3] at h2
      rw [parts_of hk (by rw [e3]; decide)]
      match hs : splitL 47 rest, h2 with
      | [b, c, d], h2 => exact ⟨by rw [e3], h2⟩
    rw [if_neg e3] at h2
    cases h2
  · intro h
    match hs : splitL 47 q.1.data.toList, h with
    | [a, b], ⟨h1, h2, h3⟩ =>
      subst h1
      obtain ⟨rest, k1, k2, _⟩ := split_back hs
      obtain ⟨k3, _⟩ := split_one k2
      obtain ⟨m1, m2, m3, _⟩ := kind_of (c0 := 117) k1 (by rw [k3]; exact h2)
      refine ⟨m1, ?_⟩
      unfold kindB
      rw [m2, m3, if_pos rfl, k2]
      exact h3
    | [a, b, c], ⟨h1, h3⟩ =>
      subst h1
      obtain ⟨rest, k1, k2, _⟩ := split_back hs
      obtain ⟨m1, m2, m3, _⟩ := kind_of (c0 := 102) k1 (fun e => by rw [e] at k2; cases k2)
      refine ⟨m1, ?_⟩
      unfold kindB
      rw [m2, m3, if_neg (by decide), if_pos rfl, k2]
      exact h3
    | [a, b, c, d], ⟨h1, h3⟩ =>
      subst h1
      obtain ⟨rest, k1, k2, _⟩ := split_back hs
      obtain ⟨m1, m2, m3, _⟩ := kind_of (c0 := 109) k1 (fun e => by rw [e] at k2; cases k2)
      refine ⟨m1, ?_⟩
      unfold kindB
      rw [m2, m3, if_neg (by decide), if_neg (by decide), if_pos rfl, k2]
      exact h3
theorem begins_iff {k p : ByteArray} : beginsB k p = true ↔ ∃ r, k.data.toList = p.data.toList ++ r := by
  unfold beginsB
  rw [Bool.and_eq_true, decide_eq_true_eq, beq_iff_eq]
  constructor
  · rintro ⟨h1, h2⟩
    have h3 := toList_inj h2
    have h4 : (k.extract 0 p.size).data.toList = k.data.toList.take p.size := by
      rw [ext_data k 0 p.size (by omega)]
      simp
    rw [h3] at h4
    exact ⟨k.data.toList.drop p.size, by rw [h4, List.take_append_drop]⟩
  · rintro ⟨r, h⟩
    have h1 : k.size = p.size + r.length := by rw [← bytes_len k, h, List.length_append, bytes_len]
    refine ⟨by omega, ?_⟩
    rw [ByteArray.toList_eq, ByteArray.toList_eq, ext_data k 0 p.size (by omega), h]
    simp [bytes_len]
theorem mailsK_data (u : ByteArray) : (mailsK u).data.toList = 109 :: 47 :: (u.data.toList ++ [47]) := by
  simp [mailsK, ByteArray.data_append]
theorem mail_begins {u : ByteArray} {q : PM} (h : isMail u q = true) : beginsB q.1 (mailsK u) = true := by
  unfold isMail at h
  match hG : splitL 47 q.1.data.toList, h with
  | [a, b, c, d], h =>
    obtain ⟨rfl, rfl⟩ := of_decide_eq_true h
    obtain ⟨hk, _⟩ := key_mail hG
    rw [begins_iff]
    exact ⟨c ++ 47 :: d, by rw [hk, mailsK_data]; show _ = 109 :: 47 :: (b ++ [47]) ++ _; simp⟩
theorem begins_parts {u : ByteArray} (hus : (47 : UInt8) ∉ u.data.toList) {q : PM} (h : beginsB q.1 (mailsK u) = true) : ∃ r, splitL 47 q.1.data.toList = [109] :: u.data.toList :: r := by
  obtain ⟨r, hr⟩ := begins_iff.1 h
  rw [mailsK_data] at hr
  have h1 : q.1.data.toList = [109] ++ 47 :: (u.data.toList ++ 47 :: r) := by rw [hr]; simp
  rw [h1, splitL_seg 47 [109] _ (by decide), splitL_seg 47 _ _ hus]
  exact ⟨_, rfl⟩
theorem filter_le {α : Type} {f g : α → Bool} : ∀ {L : List α}, (∀ x ∈ L, f x = true → g x = true) → (L.filter f).length ≤ (L.filter g).length
  | [], _ => Nat.le_refl _
  | x :: L, h => by
    have ih := filter_le (L := L) fun y hy => h y (List.mem_cons_of_mem _ hy)
    have hx := h x List.mem_cons_self
    cases hf : f x with
    | false =>
      rw [List.filter_cons_of_neg (by simp [hf])]
      cases hg : g x with
      | false => rw [List.filter_cons_of_neg (by simp [hg])]; exact ih
      | true => rw [List.filter_cons_of_pos hg, List.length_cons]; omega
    | true =>
      rw [List.filter_cons_of_pos hf, List.filter_cons_of_pos (hx hf), List.length_cons, List.length_cons]
      omega
theorem foldB_iff {nx : Int} {v : ByteArray} : foldB nx v (metaV v) = true ↔ ∃ p, metaV v = some p ∧ p.1 < nx := by
  cases h : metaV v with
  | none => simp [foldB]
  | some p =>
    show (decide (p.1 < nx) && (v.toList == (metaT p.1 p.2).toList)) = true ↔ _
    rw [← meta_text h, Bool.and_eq_true, decide_eq_true_eq]
    simp
theorem mailN_iff {cnt : Nat} {o : Option Nat} {p : Int × Int} : mailN cnt o (some p) = true ↔ ∃ n, o = some n ∧ 1 ≤ (n : Int) ∧ (n : Int) < p.2 ∧ cnt ≤ 6 := by
  match o with
  | none => simp [mailN]
  | some n =>
    show ((decide (1 ≤ (n : Int)) && decide ((n : Int) ≤ p.2 - 1)) && decide ((cnt : Int) ≤ 6)) = true ↔ _
    simp only [Bool.and_eq_true, decide_eq_true_eq]
    constructor
    · rintro ⟨⟨h1, h2⟩, h3⟩; exact ⟨n, rfl, h1, by omega, by omega⟩
    · rintro ⟨m, h0, h1, h2, h3⟩
      cases h0
      exact ⟨⟨h1, by omega⟩, by omega⟩
theorem mailO_iff {f : FM} {d : List UInt8} {v : ByteArray} : (mailO f d v).isSome = true ↔ ∃ n, decFrom 0 d = some n ∧ d.length = 3 ∧ 1 ≤ v.size ∧ v.size ≤ 86 ∧ 48 ≤ hdV v ∧ hdV v ≤ 51 ∧ 1 ≤ (n : Int) ∧ (n : Int) < f.next := by
  constructor
  · intro h
    obtain ⟨g, hg⟩ := Option.isSome_iff_exists.1 h
    obtain ⟨u, h1, h2, h3, h4, h5, h6, h7, h8, _⟩ := mailO_some hg
    exact ⟨u, h1, h2, h3, h4, h5, h6, h7, h8⟩
  · rintro ⟨n, h1, h2⟩
    unfold mailO
    rw [h1]
    simp only [Option.bind_some]
    rw [if_pos h2]
    rfl
theorem pairE_iff {L : List PM} {v : ByteArray} {b c d : List UInt8} {p : Int × Int} (hm : metaM L (bs b) (bs c) = some p) : pairE L v [b, c, d] = true ↔ (∃ n, decFrom 0 d = some n ∧ d.length = 3 ∧ 1 ≤ v.size ∧ v.size ≤ 86 ∧ 48 ≤ hdV v ∧ hdV v ≤ 51 ∧ 1 ≤ (n : Int) ∧ (n : Int) < p.2) ∧ countM L (bs b) ≤ 6 := by
  show (d.length == 3 && (decide (1 ≤ (v.size : Int)) && decide ((v.size : Int) ≤ 86)) && (decide (48 ≤ headV v) && decide (headV v ≤ 51)) && mailN (countM L (bs b)) (decFrom 0 d) (metaM L (bs b) (bs c))) = true ↔ _
  rw [hm]
  simp only [Bool.and_eq_true, beq_iff_eq, decide_eq_true_eq, mailN_iff]
  constructor
  · rintro ⟨⟨⟨h1, h2, h3⟩, h4, h5⟩, n, k1, k2, k3, k4⟩
    exact ⟨⟨n, k1, h1, by omega, by omega, h4, h5, k2, k3⟩, k4⟩
  · rintro ⟨⟨n, k1, h1, h2, h3, h4, h5, k2, k3⟩, k4⟩
    exact ⟨⟨⟨h1, by omega, by omega⟩, h4, h5⟩, n, k1, k2, k3, k4⟩
theorem mailN_none {cnt : Nat} {o : Option Nat} : mailN cnt o none = false := by
  cases o <;> rfl
theorem pairE_meta {L : List PM} {v : ByteArray} {b c d : List UInt8} (h : pairE L v [b, c, d] = true) : ∃ p, metaM L (bs b) (bs c) = some p := by
  have h9 : (d.length == 3 && (decide (1 ≤ (v.size : Int)) && decide ((v.size : Int) ≤ 86)) && (decide (48 ≤ headV v) && decide (headV v ≤ 51)) && mailN (countM L (bs b)) (decFrom 0 d) (metaM L (bs b) (bs c))) = true := h
  cases hm : metaM L (bs b) (bs c) with
  | some p => exact ⟨p, rfl⟩
  | none =>
    rw [hm, Bool.and_eq_true] at h9
    have h7 := h9.2
    rw [mailN_none] at h7
    cases h7
theorem pairF_iff {L : List PM} {nx : Int} {v : ByteArray} {b c : List UInt8} : pairF L nx v [b, c] = true ↔ shortB (bs c) = true ∧ (getM L (userK (bs b))).isSome = true ∧ foldB nx v (metaM L (bs b) (bs c)) = true := by
  show (shortB (bs c) && (getM L (userK (bs b))).isSome && foldB nx v (metaM L (bs b) (bs c))) = true ↔ _
  rw [Bool.and_eq_true, Bool.and_eq_true, and_assoc]
theorem short_ne {b : List UInt8} (h : shortB (bs b) = true) : b ≠ [] := fun e => by
  rw [e] at h
  exact absurd h (by decide)
theorem owner_slash {q : PM} {u : ByteArray} (h : ownerM q = some u) : (47 : UInt8) ∉ u.data.toList := by
  unfold ownerM at h
  have hno := splitL_no 47 q.1.data.toList
  match hs : splitL 47 q.1.data.toList, h with
  | [a, b], h => obtain ⟨_, rfl⟩ := ite_some h; exact hno b (by rw [hs]; simp)
  | [a, b, c], h => obtain ⟨_, rfl⟩ := ite_some h; exact hno b (by rw [hs]; simp)
  | [a, b, c, d], h => obtain ⟨_, rfl⟩ := ite_some h; exact hno b (by rw [hs]; simp)
theorem folder_not (u c : ByteArray) : folderK u c ≠ vK := fun e => by
  have h := congrArg (fun x : ByteArray => x.data.toList) e
  simp only [folderK_data] at h
  cases h
theorem user_not (u : ByteArray) : userK u ≠ vK := fun e => by
  have h := congrArg (fun x : ByteArray => x.data.toList) e
  simp [userK, ByteArray.data_append] at h
theorem store_eq {L : List PM} {nx : Int} {v0 : ByteArray} (hg : GoodL L) (hv : getM L vK = some v0) (hn : numB v0.data.toList = some nx) (h1 : 1 ≤ nx) (h2 : nx ≤ 10000) : knownB L = L.all (pairB L nx) := by
  have hnm : nx = nextM L := by unfold nextM; rw [hv]; simp [hn]
  have hu := hg.2.2
  have hvm : (vK, v0) ∈ L := (getM_mem hu).1 hv
  rw [Bool.eq_iff_iff, known_iff hnm hu ⟨_, hvm, rfl⟩, List.all_eq_true]
  constructor
  · rintro ⟨K1, K2⟩ q hq
    rcases K2 q hq with e | ⟨u, ho, hz⟩
    · unfold pairB
      rw [if_pos e]
      have h3 : q.2 = v0 := key_one hu (show (vK, q.2) ∈ L by rw [← e]; exact hq) hvm
      rw [h3, (is_of_num hn).1, data_bs]
      simp
    · have hqv : q.1 ≠ vK := fun e => by rw [owner_v e] at ho; cases ho
      rw [pair_iff hqv]
      have hus := owner_slash ho
      obtain ⟨k1, ⟨w, f, k2, k3⟩, k4⟩ := (lay_iff h2 hu hus).1 (K1 u hz)
      have hok := k1 q hq ho
      unfold ownerM at ho
      match hs : splitL 47 q.1.data.toList, ho, hok with
      | [a, b], ho, hok =>
        obtain ⟨e1, e2⟩ := ite_some ho
        have hok : shortB u = true ∧ shortB q.2 = true := hok
        refine ⟨e1, short_ne (by rw [e2]; exact hok.1), ?_⟩
        show (shortB (bs b) && shortB q.2 && (metaM L (bs b) inboxT).isSome) = true
        rw [e2, hok.1, hok.2, (meta_iff hu).2 ⟨w, k2, ((folder_meta h2).1 k3).2.1⟩]
        rfl
      | [a, b, c], ho, hok =>
        obtain ⟨e1, e2⟩ := ite_some ho
        obtain ⟨g, hg'⟩ : ∃ f, folderM nx (bs c) q.2 = some f := hok
        have m := (folder_meta h2).1 hg'
        subst e1
        obtain ⟨hk, _, _⟩ := key_folder hs
        have hmm : metaM L (bs b) (bs c) = metaV q.2 := by
          unfold metaM
          rw [(getM_mem hu).2 (show (folderK (bs b) (bs c), q.2) ∈ L by rw [← hk]; exact hq)]
          rfl
        refine ⟨rfl, pairF_iff.2 ⟨m.1, (get_some hu).2 (by rw [e2]; exact hz), ?_⟩⟩
        rw [hmm, foldB_iff]
        exact ⟨_, m.2.1, m.2.2.1⟩
      | [a, b, c, d], ho, hok =>
        obtain ⟨e1, e2⟩ := ite_some ho
        obtain ⟨w2, f2, n1, n2, n3⟩ : ∃ w f, (folderK u (bs c), w) ∈ L ∧ folderM nx (bs c) w = some f ∧ (mailO f d q.2).isSome = true := hok
        have m := (folder_meta h2).1 n2
        have hmm : metaM L (bs b) (bs c) = some (f2.val, f2.next) := by rw [e2]; exact (meta_iff hu).2 ⟨w2, n1, m.2.1⟩
        refine ⟨e1, (pairE_iff hmm).2 ⟨mailO_iff.1 n3, ?_⟩⟩
        rw [e2]
        refine Nat.le_trans (filter_le ?_) k4
        intro z hz2 hb
        obtain ⟨r, hr⟩ := begins_parts hus hb
        rcases K2 z hz2 with e | ⟨u2, ho2, _⟩
        · rw [e, show splitL 47 vK.data.toList = [[118]] from rfl] at hr
          cases hr
        · unfold ownerM at ho2
          unfold isMail
          rw [hr] at ho2 ⊢
          match r, ho2 with
          | [], ho2 => cases ho2
          | [_], ho2 => cases ho2
          | [_, _], _ => exact decide_eq_true ⟨rfl, rfl⟩
          | _ :: _ :: _ :: _, ho2 => cases ho2
  · intro H
    have HA : ∀ q ∈ L, q.1 ≠ vK → askG L nx q.2 (splitL 47 q.1.data.toList) := fun q hq hv => (pair_iff hv).1 (H q hq)
    have HF : ∀ (u c w : ByteArray), (47 : UInt8) ∉ u.data.toList → (47 : UInt8) ∉ c.data.toList → (folderK u c, w) ∈ L → (∃ f, folderM nx c w = some f) ∧ ∃ z ∈ L, z.1 = userK u := by
      intro u c w hus hcs hm
      have a := HA _ hm (folder_not u c)
      simp only [parts_folder hus hcs] at a
      obtain ⟨a1, a2, a3⟩ := pairF_iff.1 a.2
      have hmm : metaM L u c = metaV w := by
        unfold metaM
        rw [(getM_mem hu).2 hm]
        rfl
      have a3 : foldB nx w (metaM L u c) = true := a3
      rw [hmm, foldB_iff] at a3
      obtain ⟨p, p1, p2⟩ := a3
      exact ⟨⟨⟨c, p.1, p.2, []⟩, (folder_meta h2).2 ⟨a1, p1, p2, rfl⟩⟩, (get_some hu).1 a2⟩
    refine ⟨fun u hz => ?_, fun q hq => ?_⟩
    · obtain ⟨z, hz1, hz2⟩ := hz
      have a := HA z hz1 (by rw [hz2]; exact user_not u)
      rw [hz2, parts_of (c0 := 117) (rest := u.data.toList) (by simp [userK, ByteArray.data_append]) (by decide)] at a
      match hs : splitL 47 u.data.toList, a with
      | [], a => exact absurd hs (splitL_ne 47 _)
      | [b], a =>
        obtain ⟨_, _, a3⟩ := a
        obtain ⟨e1, hus⟩ := split_one hs
        have hbu : bs b = u := by rw [← e1]; exact data_bs u
        rw [← e1] at hus
        have a3 : (shortB (bs b) && shortB z.2 && (metaM L (bs b) inboxT).isSome) = true := a3
        rw [Bool.and_eq_true, Bool.and_eq_true, hbu] at a3
        obtain ⟨⟨a4, a5⟩, a6⟩ := a3
        rw [lay_iff h2 hu hus]
        refine ⟨fun q hq ho => ?_, ?_, ?_⟩
        · have hqv : q.1 ≠ vK := fun e => by rw [owner_v e] at ho; cases ho
          have aq := HA q hq hqv
          unfold ownerM at ho
          match hs2 : splitL 47 q.1.data.toList, ho, aq with
          | [a, b'], ho, aq =>
            obtain ⟨e3, e4⟩ := ite_some ho
            have a7 : (shortB (bs b') && shortB q.2 && (metaM L (bs b') inboxT).isSome) = true := aq.2.2
            rw [Bool.and_eq_true, Bool.and_eq_true] at a7
            exact ⟨a4, a7.1.2⟩
          | [a, b', c], ho, aq =>
            obtain ⟨e3, e4⟩ := ite_some ho
            subst e3
            obtain ⟨hk, hb', hc'⟩ := key_folder hs2
            exact (HF (bs b') (bs c) q.2 hb' hc' (by rw [← hk]; exact hq)).1
          | [a, b', c, d], ho, aq =>
            obtain ⟨e3, e4⟩ := ite_some ho
            subst e3
            obtain ⟨_, hb', hc'⟩ := key_mail hs2
            obtain ⟨p, hp⟩ := pairE_meta aq.2
            obtain ⟨w, w1, w2⟩ := (meta_iff hu).1 hp
            obtain ⟨f, hf⟩ := (HF (bs b') (bs c) w hb' hc' w1).1
            have m := (folder_meta h2).1 hf
            rw [w2] at m
            have hpn : p.2 = f.next := by have := m.2.1; cases this; rfl
            obtain ⟨n, n1⟩ := ((pairE_iff hp).1 aq.2).1
            rw [hpn] at n1
            exact ⟨w, f, by rw [← e4]; exact w1, hf, mailO_iff.2 ⟨n, n1⟩⟩
        · obtain ⟨p, hp⟩ := Option.isSome_iff_exists.1 a6
          obtain ⟨w, w1, w2⟩ := (meta_iff hu).1 hp
          obtain ⟨f, hf⟩ := (HF u inboxT w hus (by decide) w1).1
          exact ⟨w, f, w1, hf⟩
        · cases hl : L.filter (isMail u) with
          | nil => simp
          | cons q r =>
            have hq : q ∈ L.filter (isMail u) := by rw [hl]; exact List.mem_cons_self
            rw [List.mem_filter] at hq
            have ho := mail_owner hq.2
            have hqv : q.1 ≠ vK := fun e => by rw [owner_v e] at ho; cases ho
            have aq := HA q hq.1 hqv
            have hmq := hq.2
            unfold isMail at hmq
            rw [← hl]
            refine Nat.le_trans (filter_le fun x _ => mail_begins) ?_
            match hs2 : splitL 47 q.1.data.toList, hmq, aq with
            | [a, b', c, d], hmq, aq =>
              obtain ⟨_, e4⟩ := of_decide_eq_true hmq
              obtain ⟨p, hp⟩ := pairE_meta aq.2
              have h9 := ((pairE_iff hp).1 aq.2).2
              rw [e4] at h9
              exact h9
      | b :: c :: [], a => exact absurd a.1 (by decide)
      | b :: c :: d :: [], a => exact absurd a.1 (by decide)
      | _ :: _ :: _ :: _ :: _, a => exact a.elim
    · by_cases e : q.1 = vK
      · exact .inl e
      · right
        have aq := HA q hq e
        match hs : splitL 47 q.1.data.toList, aq with
        | [a, b], aq =>
          obtain ⟨e1, _, _⟩ := aq
          subst e1
          exact ⟨bs b, by unfold ownerM; rw [hs]; rfl, q, hq, (key_user hs).1⟩
        | [a, b, c], aq =>
          obtain ⟨e1, e2⟩ := aq
          subst e1
          exact ⟨bs b, by unfold ownerM; rw [hs]; rfl, (get_some hu).1 (pairF_iff.1 e2).2.1⟩
        | [a, b, c, d], aq =>
          obtain ⟨e1, e2⟩ := aq
          subst e1
          obtain ⟨_, hb', hc'⟩ := key_mail hs
          obtain ⟨p, hp⟩ := pairE_meta e2
          obtain ⟨w, w1, _⟩ := (meta_iff hu).1 hp
          exact ⟨bs b, by unfold ownerM; rw [hs]; rfl, (HF (bs b) (bs c) w hb' hc' w1).2⟩
theorem impl_store (L : List PM) : implB L = storeB L := by
  unfold implB storeB
  cases hp : pairsB (fK L) (fV L) L.length with
  | false => rfl
  | true =>
    have hg := good_of hp
    rw [Bool.true_and, Bool.true_and]
    cases hv : getM L vK with
    | none =>
      have h1 : nextM L = 0 := by unfold nextM; rw [hv]; rfl
      rw [h1]
      rfl
    | some v0 =>
      cases hn : numB v0.data.toList with
      | none =>
        have h1 : nextM L = 0 := by unfold nextM; rw [hv]; simp [hn]
        rw [h1, Option.getD_some, hn]
        rfl
      | some nx =>
        have h1 : nextM L = nx := by unfold nextM; rw [hv]; simp [hn]
        rw [h1, Option.getD_some, hn]
        show ((decide (1 ≤ nx) && decide (nx ≤ 10000)) && knownB L) = _
        by_cases h3 : 1 ≤ nx ∧ nx ≤ 10000
        · rw [store_eq hg hv hn h3.1 h3.2]
        · have h4 : (decide (1 ≤ nx) && decide (nx ≤ 10000)) = false := by
            rw [Bool.eq_false_iff]
            simp only [ne_eq, Bool.and_eq_true, decide_eq_true_eq]
            exact h3
          rw [h4]
          rfl
theorem all_dx {α : Type} (d : α) (f : α → Bool) (L : List α) (k : Nat) (hk : k < L.length) : (L.drop k).all f = (f (L.getD k d) && (L.drop (k + 1)).all f) := by
  rw [List.drop_eq_getElem_cons hk, List.getD_eq_getElem?_getD, List.getElem?_eq_getElem hk]
  rfl
theorem all_de {α : Type} (f : α → Bool) (L : List α) (k : Nat) (hk : L.length ≤ k) : (L.drop k).all f = true := by
  rw [List.drop_of_length_le hk]
  rfl
abbrev smallT (s : ByteArray) : Bool := decide (s.size ≤ 65536)
def askM (L : List PM) (Ns : List ByteArray) : Int := if 4096 < L.length ∨ Ns.all smallT = false then 2 else if storeB L = false then 1 else if Ns.all shortB = false then 17 else 0
theorem ask_small {L : List PM} {Ns : List ByteArray} (h : ¬ 4096 < L.length) : askM L Ns = if Ns.all smallT = false then 2 else if storeB L = false then 1 else if Ns.all shortB = false then 17 else 0 := by
  unfold askM
  by_cases h9 : Ns.all smallT = false
  · rw [if_pos (.inr h9), if_pos h9]
  · have h8 : ¬ (4096 < L.length ∨ Ns.all smallT = false) := fun h7 => h7.elim h h9
    rw [if_neg h8, if_neg h9]

set_option maxHeartbeats 1000000 in
theorem allShortI (b : Option Addr) (m d : Nat) (Ns : List ByteArray) (w : World) (hN : Ns.length = m) (hm : m ≤ 100) (hz : ∀ s ∈ Ns, s.size ≤ 1048576) (h2 : Src w b (cellsS Ns)) (nb : Bool) (HNB : Hid (Ns.all shortB = nb)) :
    Calls Tryz.prog 78 #[.slice b m d] w fun e w' => e = .returned (.bool nb) ∧ Below w.heap.size w w' := by
  have HN : Hid (Ns.length = m) := hN
  have HT : Hid (Src w b (cellsS Ns)) := h2
  have HY : Hid (∀ s ∈ Ns, s.size ≤ 1048576) := hz
  have HB0 : Hid ((Ns.drop 0).all shortB = nb) := HNB.out
  clear hN h2 hz HNB
  go_enter Tryz.func78, Tryz.ntmps78
  go_wp2_with fail
  go_loopw [7] (fun iv wr => ∃ j : Nat, j ≤ m ∧ iv = .int .i64 (j : Int) ∧ Hid ((Ns.drop j).all shortB = nb) ∧ Hid (Below w.heap.size w wr)) (fun i _ => m - (RowKit.intOf i).toNat)
  case atStart => exact ⟨0, by omega, rfl, HB0.out, Below.refl _ _⟩
  case round =>
    obtain ⟨j, hj, rfl, hall, hbr⟩ := hrel
    by_cases hlt : j < m
    · have hltj : (j : Int) < (m : Int) := by omega
      have hkN : j < Ns.length := by rw [HN.out]; exact hlt
      obtain ⟨b', o', t, rfl, c1, hy⟩ := srcS (HT.out.below hbr.out) hkN
      have hts : t.size ≤ maxLen := by
        have := HY.out t (by rw [← hy.out]; exact mem_getD Ns e0 j hkN)
        unfold maxLen
        omega
      have HA := hall.out
      rw [all_dx e0 shortB Ns j hkN, hy.out] at HA
      obtain ⟨st, hst⟩ : ∃ x, shortB t = x := ⟨_, rfl⟩
      rw [hst] at HA
      have HA3 : Hid ((st && (Ns.drop (j + 1)).all shortB) = nb) := HA
      clear HA hall
      go_wp2_with fail
      refine (shortIs st t _ hst hts).mono ?_
      rintro e w5 ⟨rfl, hw5⟩
      obtain rfl := hw5
      cases st with
      | false =>
        obtain rfl : false = nb := HA3.out
        go_wp2_with fail
        go_ret
        exact ⟨rfl, hbr.out⟩
      | true =>
        have HA4 : Hid ((Ns.drop (j + 1)).all shortB = nb) := HA3
        go_wp2_with fail
        exact ⟨⟨j + 1, by omega, by go_num, HA4.out, hbr.out⟩, by simp [RowKit.intOf]; omega⟩
    · obtain rfl : j = m := by omega
      have hltj : ¬ (j : Int) < (j : Int) := by omega
      obtain rfl : true = nb := by rw [← hall.out, all_de _ _ _ (by rw [HN.out]; exact Nat.le_refl _)]
      clear hall
      go_wp2_with fail
      go_ret
      exact ⟨rfl, hbr.out⟩

set_option maxHeartbeats 4000000 in
theorem l07AskS (a : Option Addr) (n c : Nat) (L : List PM) (b : Option Addr) (m d : Nat) (Ns : List ByteArray) (w : World) (hL : L.length = n) (hn : n ≤ 1048576) (hs : ∀ x ∈ L, x.1.size ≤ 1048576 ∧ x.2.size ≤ 1048576) (h : Src w a (cellsP L)) (hN : Ns.length = m) (hm : m ≤ 100) (hz : ∀ s ∈ Ns, s.size ≤ 1048576) (h2 : Src w b (cellsS Ns)) (Q : Int) (HQ : Hid (askM L Ns = Q)) :
    Calls Tryz.prog 48 #[.slice a n c, .slice b m d] w fun e w' => e = .returned (.int .i64 Q) ∧ Below w.heap.size w w' := by
  have HL : Hid (L.length = n) := hL
  have HS : Hid (Src w a (cellsP L)) := h
  have HZ : Hid (∀ x ∈ L, x.1.size ≤ 1048576 ∧ x.2.size ≤ 1048576) := hs
  have HN : Hid (Ns.length = m) := hN
  have HT : Hid (Src w b (cellsS Ns)) := h2
  have HY : Hid (∀ s ∈ Ns, s.size ≤ 1048576) := hz

  clear hL h hs hN h2 hz
  by_cases hbig : 4096 < n
  · have HZQ : Hid (2 = Q) := by show _ = _; rw [← HQ.out]; unfold askM; rw [if_pos (.inl (by rw [HL.out]; exact hbig))]
    have hbi : (4096 : Int) < (n : Int) := by omega
    go_enter Tryz.func48, Tryz.ntmps48
    go_wp2_with fail
    go_ret
    exact ⟨ret_int HZQ.out, Below.refl _ _⟩
  have hbi : ¬ (4096 : Int) < (n : Int) := by omega
  have HQ1 : Hid ((if Ns.all smallT = false then 2 else if storeB L = false then 1 else if Ns.all shortB = false then 17 else 0) = Q) := by
    show _ = _
    rw [← HQ.out, ask_small (by rw [HL.out]; exact hbig)]
  clear HQ
  obtain ⟨sb, hsb⟩ : ∃ x, storeB L = x := ⟨_, rfl⟩
  have HSB : Hid (storeB L = sb) := hsb
  rw [hsb] at HQ1
  clear hsb
  obtain ⟨tb, htb⟩ : ∃ x, Ns.all smallT = x := ⟨_, rfl⟩
  obtain ⟨nb, hnb⟩ : ∃ x, Ns.all shortB = x := ⟨_, rfl⟩
  rw [htb, hnb] at HQ1
  have HTB : Hid ((Ns.drop 0).all smallT = tb) := htb
  have HNB : Hid ((Ns.drop 0).all shortB = nb) := hnb
  clear htb hnb
  go_enter Tryz.func48, Tryz.ntmps48
  go_wp2_with fail
  go_loopw [5] (fun iv wr => ∃ k : Nat, k ≤ m ∧ iv = .int .i64 (k : Int) ∧ Hid ((Ns.drop k).all smallT = tb) ∧ Hid (Below w.heap.size w wr)) (fun i _ => m - (RowKit.intOf i).toNat)
  case atStart => exact ⟨0, by omega, rfl, HTB.out, Below.refl _ _⟩
  case round =>
    obtain ⟨k, hk, rfl, hall, hbr⟩ := hrel
    by_cases hlt : k < m
    · have hlti : (k : Int) < (m : Int) := by omega
      have hkN : k < Ns.length := by rw [HN.out]; exact hlt
      obtain ⟨b', o', t, rfl, c1, hy⟩ := srcS (HT.out.below hbr.out) hkN
      have hts : t.size ≤ 1048576 := HY.out t (by rw [← hy.out]; exact mem_getD Ns e0 k hkN)
      have HA := hall.out
      rw [all_dx e0 smallT Ns k hkN, hy.out] at HA
      by_cases hbt : 65536 < t.size
      · have hbti : (65536 : Int) < (t.size : Int) := by omega
        rw [show smallT t = false from decide_eq_false (by omega), Bool.false_and] at HA
        have HZQ : Hid (2 = Q) := by show _ = _; rw [← HQ1.out, ← HA]; rfl
        clear HA hall
        go_wp2_with fail
        go_ret
        exact ⟨ret_int HZQ.out, hbr.out⟩
      · have hbti : ¬ (65536 : Int) < (t.size : Int) := by omega
        rw [show smallT t = true from decide_eq_true (by omega), Bool.true_and] at HA
        have HA2 : Hid ((Ns.drop (k + 1)).all smallT = tb) := HA
        clear HA hall
        go_wp2_with fail
        exact ⟨⟨k + 1, by omega, by go_num, HA2.out, hbr.out⟩, by simp [RowKit.intOf]; omega⟩
    · obtain rfl : k = m := by omega
      have hlti : ¬ (k : Int) < (k : Int) := by omega
      obtain rfl : true = tb := by rw [← hall.out, all_de _ _ _ (by rw [HN.out]; exact Nat.le_refl _)]
      have HQ2 : Hid ((if sb = false then 1 else if nb = false then 17 else 0) = Q) := by show _ = _; rw [← HQ1.out]; rfl
      clear hall HTB HQ1
      go_wp2_with fail
      refine (specMailStoreOK _ n c L _ HL.out hn HZ.out (HS.out.below hbr.out) sb HSB).mono ?_
      rintro e w3 ⟨rfl, hb3⟩
      have B3 : Hid (Below w.heap.size w w3) := hbr.out.trans (hb3.mono hbr.out.size)
      clear hb3
      cases sb with
      | false =>
        have HZQ : Hid (1 = Q) := by show _ = _; rw [← HQ2.out]; rfl
        go_wp2_with fail
        go_ret
        exact ⟨ret_int HZQ.out, B3.out⟩
      | true =>
        have HQ3 : Hid ((if nb = false then 17 else 0) = Q) := by show _ = _; rw [← HQ2.out]; rfl
        clear hbr
        go_wp2_with fail
        go_loopw [6] (fun iv wr => ∃ j : Nat, j ≤ k ∧ iv = .int .i64 (j : Int) ∧ Hid ((Ns.drop j).all shortB = nb) ∧ Hid (Below w.heap.size w wr)) (fun i _ => k - (RowKit.intOf i).toNat)
        case atStart => exact ⟨0, by omega, rfl, HNB.out, B3.out⟩
        case round =>
          obtain ⟨j, hj, rfl, hall, hbr⟩ := hrel
          by_cases hlt : j < k
          · have hltj : (j : Int) < (k : Int) := by omega
            have hkN : j < Ns.length := by rw [HN.out]; exact hlt
            obtain ⟨b', o', t, rfl, c1, hy⟩ := srcS (HT.out.below hbr.out) hkN
            have hts : t.size ≤ maxLen := by
              have := HY.out t (by rw [← hy.out]; exact mem_getD Ns e0 j hkN)
              unfold maxLen
              omega
            have HA := hall.out
            rw [all_dx e0 shortB Ns j hkN, hy.out] at HA
            obtain ⟨st, hst⟩ : ∃ x, shortB t = x := ⟨_, rfl⟩
            rw [hst] at HA
            have HA3 : Hid ((st && (Ns.drop (j + 1)).all shortB) = nb) := HA
            clear HA hall
            go_wp2_with fail
            refine (l04Is st t _ hst hts).mono ?_
            rintro e w5 ⟨rfl, hw5⟩
            obtain rfl := hw5
            cases st with
            | false =>
              have HZQ : Hid (17 = Q) := by show _ = _; rw [← HQ3.out, ← HA3.out]; rfl
              go_wp2_with fail
              go_ret
              exact ⟨ret_int HZQ.out, hbr.out⟩
            | true =>
              have HA4 : Hid ((Ns.drop (j + 1)).all shortB = nb) := HA3
              go_wp2_with fail
              exact ⟨⟨j + 1, by omega, by go_num, HA4.out, hbr.out⟩, by simp [RowKit.intOf]; omega⟩
          · obtain rfl : j = k := by omega
            have hltj : ¬ (j : Int) < (j : Int) := by omega
            obtain rfl : true = nb := by rw [← hall.out, all_de _ _ _ (by rw [HN.out]; exact Nat.le_refl _)]
            have HZQ : Hid (0 = Q) := by show _ = _; rw [← HQ3.out]; rfl
            clear hall
            go_wp2_with fail
            go_ret
            exact ⟨ret_int HZQ.out, hbr.out⟩

set_option maxHeartbeats 4000000 in
theorem mailFaultI (a : Option Addr) (n c : Nat) (L : List PM) (b : Option Addr) (m d : Nat) (Ns : List ByteArray) (w : World) (hL : L.length = n) (hn : n ≤ 1048576) (hs : ∀ x ∈ L, x.1.size ≤ 1048576 ∧ x.2.size ≤ 1048576) (h : Src w a (cellsP L)) (hN : Ns.length = m) (hm : m ≤ 100) (hz : ∀ s ∈ Ns, s.size ≤ 1048576) (h2 : Src w b (cellsS Ns)) (hG : Gl w) (h8 : 8 ≤ w.heap.size) (Q : Int) (HQ : Hid (askM L Ns = Q)) :
    Calls Tryz.prog 36 #[.slice a n c, .slice b m d] w fun e w' => e = .returned (.int .i64 Q) ∧ Below w.heap.size w w' := by
  have HL : Hid (L.length = n) := hL
  have HS : Hid (Src w a (cellsP L)) := h
  have HZ : Hid (∀ x ∈ L, x.1.size ≤ 1048576 ∧ x.2.size ≤ 1048576) := hs
  have HN : Hid (Ns.length = m) := hN
  have HT : Hid (Src w b (cellsS Ns)) := h2
  have HY : Hid (∀ s ∈ Ns, s.size ≤ 1048576) := hz
  have HG : Hid (Gl w) := hG
  clear hL h hs hN h2 hz hG
  by_cases hbig : 4096 < n
  · have HZQ : Hid (2 = Q) := by show _ = _; rw [← HQ.out]; unfold askM; rw [if_pos (.inl (by rw [HL.out]; exact hbig))]
    have hbi : (4096 : Int) < (n : Int) := by omega
    go_enter Tryz.func36, Tryz.ntmps36
    go_wp2_with fail
    go_ret
    exact ⟨ret_int HZQ.out, Below.refl _ _⟩
  have hbi : ¬ (4096 : Int) < (n : Int) := by omega
  have HQ1 : Hid ((if Ns.all smallT = false then 2 else if storeB L = false then 1 else if Ns.all shortB = false then 17 else 0) = Q) := by
    show _ = _
    rw [← HQ.out, ask_small (by rw [HL.out]; exact hbig)]
  clear HQ
  obtain ⟨sb, hsb⟩ : ∃ x, storeB L = x := ⟨_, rfl⟩
  have HSB : Hid (storeB L = sb) := hsb
  rw [hsb] at HQ1
  clear hsb
  obtain ⟨tb, htb⟩ : ∃ x, Ns.all smallT = x := ⟨_, rfl⟩
  obtain ⟨nb, hnb⟩ : ∃ x, Ns.all shortB = x := ⟨_, rfl⟩
  rw [htb, hnb] at HQ1
  have HTB : Hid ((Ns.drop 0).all smallT = tb) := htb
  have HNB : Hid ((Ns.drop 0).all shortB = nb) := hnb
  clear htb hnb
  go_enter Tryz.func36, Tryz.ntmps36
  go_wp2_with fail
  go_loopw [12] (fun iv wr => ∃ k : Nat, k ≤ m ∧ iv = .int .i64 (k : Int) ∧ Hid ((Ns.drop k).all smallT = tb) ∧ Hid (Below w.heap.size w wr)) (fun i _ => m - (RowKit.intOf i).toNat)
  case atStart => exact ⟨0, by omega, rfl, HTB.out, Below.refl _ _⟩
  case round =>
    obtain ⟨k, hk, rfl, hall, hbr⟩ := hrel
    by_cases hlt : k < m
    · have hlti : (k : Int) < (m : Int) := by omega
      have hkN : k < Ns.length := by rw [HN.out]; exact hlt
      obtain ⟨b', o', t, rfl, c1, hy⟩ := srcS (HT.out.below hbr.out) hkN
      have hts : t.size ≤ 1048576 := HY.out t (by rw [← hy.out]; exact mem_getD Ns e0 k hkN)
      have HA := hall.out
      rw [all_dx e0 smallT Ns k hkN, hy.out] at HA
      by_cases hbt : 65536 < t.size
      · have hbti : (65536 : Int) < (t.size : Int) := by omega
        rw [show smallT t = false from decide_eq_false (by omega), Bool.false_and] at HA
        have HZQ : Hid (2 = Q) := by show _ = _; rw [← HQ1.out, ← HA]; rfl
        clear HA hall
        go_wp2_with fail
        go_ret
        exact ⟨ret_int HZQ.out, hbr.out⟩
      · have hbti : ¬ (65536 : Int) < (t.size : Int) := by omega
        rw [show smallT t = true from decide_eq_true (by omega), Bool.true_and] at HA
        have HA2 : Hid ((Ns.drop (k + 1)).all smallT = tb) := HA
        clear HA hall
        go_wp2_with fail
        exact ⟨⟨k + 1, by omega, by go_num, HA2.out, hbr.out⟩, by simp [RowKit.intOf]; omega⟩
    · obtain rfl : k = m := by omega
      have hlti : ¬ (k : Int) < (k : Int) := by omega
      obtain rfl : true = tb := by rw [← hall.out, all_de _ _ _ (by rw [HN.out]; exact Nat.le_refl _)]
      have HQ2 : Hid ((if sb = false then 1 else if nb = false then 17 else 0) = Q) := by show _ = _; rw [← HQ1.out]; rfl
      clear hall HTB HQ1
      go_wp2_with fail
      refine (implMailStoreOK _ n c L _ HL.out hn HZ.out (HS.out.below hbr.out) (HG.out.below h8 hbr.out) (by have := hbr.out.size; omega) sb ((impl_store L).trans HSB.out)).mono ?_
      rintro e w3 ⟨rfl, hb3⟩
      have B3 : Hid (Below w.heap.size w w3) := hbr.out.trans (hb3.mono hbr.out.size)
      clear hb3
      cases sb with
      | false =>
        have HZQ : Hid (1 = Q) := by show _ = _; rw [← HQ2.out]; rfl
        go_wp2_with fail
        go_ret
        exact ⟨ret_int HZQ.out, B3.out⟩
      | true =>
        have HQ3 : Hid ((if nb = false then 17 else 0) = Q) := by show _ = _; rw [← HQ2.out]; rfl
        have CS := allShortI b k d Ns w3 HN.out hm HY.out (HT.out.below B3.out) nb HNB
        clear hbr
        go_wp2_with fail
        refine CS.mono ?_
        rintro e w5 ⟨rfl, hb5⟩
        have B5 : Hid (Below w.heap.size w w5) := B3.out.trans (hb5.mono B3.out.size)
        clear hb5 CS
        cases nb with
        | false =>
          have HZQ : Hid (17 = Q) := by show _ = _; rw [← HQ3.out]; rfl
          go_wp2_with fail
          go_ret
          exact ⟨ret_int HZQ.out, B5.out⟩
        | true =>
          have HZQ : Hid (0 = Q) := by show _ = _; rw [← HQ3.out]; rfl
          go_wp2_with fail
          go_ret
          exact ⟨ret_int HZQ.out, B5.out⟩
end Go.Proofs.YthgbclipknfmjaaGreatDoor
