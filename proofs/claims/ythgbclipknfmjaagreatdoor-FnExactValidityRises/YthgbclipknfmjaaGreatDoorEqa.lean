
/-
  A mail store's pairs, told by their owners: the count that the program keeps. Lists alone. By an AI agent.
-/
import Derived.Test.YthgbclipknfmjaaGreatDoorMok
import Derived.Test.YthgbclipknfmjaaGreatDoorMss
namespace Go.Proofs.YthgbclipknfmjaaGreatDoor
open Go.ChangeShapes Go.WideShapes Go.ChangeAt Go.RowKit Go.Deep Go.Lib
set_option linter.unusedVariables false
set_option linter.unusedSimpArgs false
set_option maxRecDepth 100000

def ownerG : List (List UInt8) → Option ByteArray
  | [a, b] => if a = [117] then some (bs b) else none
  | [a, b, _] => if a = [102] then some (bs b) else none
  | [a, b, _, _] => if a = [109] then some (bs b) else none
  | _ => none
def ownerM (p : PM) : Option ByteArray := ownerG (splitL 47 p.1.data.toList)
theorem take_other {nx : Int} {u : ByteArray} {S : SM} {p : PM} {G : List (List UInt8)} (h : ownerG G ≠ some u) : takeP nx u S p G = asideM S p := by
  match G, h with
  | [], _ => rfl
  | [_], _ => rfl
  | [a, b], h => exact if_neg fun h9 => h (by show (if a = [117] then _ else _) = _; rw [if_pos h9.2, h9.1])
  | [a, b, c], h => exact if_neg fun h9 => h (by show (if a = [102] then _ else _) = _; rw [if_pos h9.2, h9.1])
  | [a, b, c, d], h => exact if_neg fun h9 => h (by show (if a = [109] then _ else _) = _; rw [if_pos h9.2, h9.1])
  | _ :: _ :: _ :: _ :: _ :: _, _ => rfl
theorem put_aside {S S' : SM} {o : Option FM} (h : putM S o = some S') : S'.aside = S.aside ∧ S'.word = S.word := by
  unfold putM at h
  obtain ⟨g, rfl, rfl⟩ := Option.map_eq_some_iff.1 h
  exact ⟨rfl, rfl⟩
theorem ite_some {α : Type} {c : Prop} [Decidable c] {x y : α} (h : (if c then some x else none) = some y) : c ∧ x = y := by
  split at h
  · cases h; exact ⟨by assumption, rfl⟩
  · cases h
theorem take_own {nx : Int} {u : ByteArray} {S S' : SM} {p : PM} {G : List (List UInt8)} (h : ownerG G = some u) (hs : takeP nx u S p G = some S') : S'.aside = S.aside := by
  match G, h, hs with
  | [], h, _ => cases h
  | [_], h, _ => cases h
  | [a, b], h, hs =>
    obtain ⟨h1, h2⟩ := ite_some h
    have h3 : takeP nx u S p [a, b] = userM u S p.2 := if_pos ⟨h2, h1⟩
    rw [h3] at hs
    unfold userM at hs
    split at hs
    · cases hs; rfl
    · cases hs
  | [a, b, c], h, hs =>
    obtain ⟨h1, h2⟩ := ite_some h
    have h3 : takeP nx u S p [a, b, c] = putM S (folderM nx (bs c) p.2) := if_pos ⟨h2, h1⟩
    rw [h3] at hs
    exact (put_aside hs).1
  | [a, b, c, d], h, hs =>
    obtain ⟨h1, h2⟩ := ite_some h
    have h3 : takeP nx u S p [a, b, c, d] = putM S (mailM S.fs (bs c) (bs d) p.2) := if_pos ⟨h2, h1⟩
    rw [h3] at hs
    exact (put_aside hs).1
  | _ :: _ :: _ :: _ :: _ :: _, h, _ => cases h
abbrev isOwn (u : ByteArray) (p : PM) : Bool := decide (ownerM p = some u)
theorem all_aside {nx : Int} {u : ByteArray} : ∀ {L : List PM} {S S' : SM}, takeAll nx u S L = some S' → S'.aside = S.aside ++ L.filter fun p => !isOwn u p
  | [], S, S', h => by cases h; simp
  | p :: L, S, S', h => by
    unfold takeAll at h
    obtain ⟨S1, h1, h2⟩ := Option.bind_eq_some_iff.1 h
    have ih := all_aside h2
    by_cases ho : ownerM p = some u
    · have h3 : S1.aside = S.aside := take_own ho h1
      rw [ih, h3, List.filter_cons_of_neg (by simp [isOwn, ho])]
    · have h3 : asideM S p = some S1 := (take_other ho).symm.trans h1
      cases h3
      rw [ih, List.filter_cons_of_pos (by simp [isOwn, ho])]
      simp
theorem len_split {α : Type} (f : α → Bool) : ∀ L : List α, (L.filter f).length + (L.filter fun x => !f x).length = L.length
  | [] => rfl
  | x :: L => by
    have ih := len_split f L
    cases h : f x with
    | true => rw [List.filter_cons_of_pos h, List.filter_cons_of_neg (by simp [h]), List.length_cons, List.length_cons]; omega
    | false => rw [List.filter_cons_of_neg (by simp [h]), List.filter_cons_of_pos (by simp [h]), List.length_cons, List.length_cons]; omega
def ownN (u : ByteArray) (L : List PM) : Nat := (L.filter (isOwn u)).length
theorem aside_own {nx : Int} {u : ByteArray} {L : List PM} (h : layF nx u S0 L = true) : L.length - asideN nx u L = ownN u L := by
  unfold layF at h
  split at h
  · rename_i S hS
    have h1 := all_aside hS
    have h2 := len_split (isOwn u) L
    unfold asideN ownN
    rw [hS]
    show L.length - S.aside.length = _
    rw [h1]
    show L.length - ([] ++ L.filter fun p => !isOwn u p).length = _
    rw [List.nil_append]
    omega
  · cases h
def sumN : List Nat → Nat
  | [] => 0
  | x :: l => x + sumN l
def usersOf (L : List PM) : List ByteArray := (L.filter fun p => userI p.1).map fun p => userN p.1
theorem known_eq {nx : Int} {L0 : List PM} : ∀ (L : List PM) (t : Nat), knownM nx L0 t L = if (usersOf L).all (fun u => layF nx u S0 L0) = true then some (t + sumN ((usersOf L).map fun u => ownN u L0)) else none
  | [], t => rfl
  | p :: L, t => by
    unfold knownM
    cases hu : userI p.1 with
    | false =>
      have h1 : usersOf (p :: L) = usersOf L := by unfold usersOf; rw [List.filter_cons_of_neg (by simp [hu])]
      rw [if_neg (by simp), h1]
      exact known_eq L t
    | true =>
      have h1 : usersOf (p :: L) = userN p.1 :: usersOf L := by unfold usersOf; rw [List.filter_cons_of_pos (by simp [hu])]; rfl
      rw [if_pos rfl, h1, List.all_cons, List.map_cons]
      cases hl : layF nx (userN p.1) S0 L0 with
      | false => simp
      | true =>
        rw [if_pos rfl, known_eq L, aside_own hl, Bool.true_and]
        show _ = if _ then some (t + (ownN (userN p.1) L0 + sumN _)) else none
        rw [Nat.add_assoc]
def own1 (Us : List ByteArray) (q : PM) : Nat := (Us.filter fun u => isOwn u q).length
theorem swap_one (q : PM) (L : List PM) : ∀ Us : List ByteArray, sumN (Us.map fun u => ownN u (q :: L)) = own1 Us q + sumN (Us.map fun u => ownN u L)
  | [] => rfl
  | u :: Us => by
    have ih := swap_one q L Us
    rw [List.map_cons, List.map_cons]
    show ownN u (q :: L) + sumN _ = _ + (ownN u L + sumN _)
    rw [ih]
    unfold ownN own1
    cases h : isOwn u q with
    | true => simp only [List.filter_cons, h, if_true, List.length_cons]; omega
    | false => simp only [List.filter_cons, h, Bool.false_eq_true, if_false]; omega
theorem swap_all (Us : List ByteArray) : ∀ L : List PM, sumN (Us.map fun u => ownN u L) = sumN (L.map (own1 Us))
  | [] => by
    induction Us with
    | nil => rfl
    | cons u Us ih => rw [List.map_cons]; show 0 + sumN _ = _; rw [ih]; rfl
  | q :: L => by rw [swap_one, swap_all Us L]; rfl
theorem own1_none {q : PM} : ∀ {Us : List ByteArray}, (∀ u ∈ Us, ownerM q ≠ some u) → own1 Us q = 0
  | Us, h => by
    unfold own1
    rw [List.length_eq_zero_iff, List.filter_eq_nil_iff]
    intro u hu
    simp [isOwn, h u hu]
theorem own1_le {q : PM} : ∀ {Us : List ByteArray}, Us.Nodup → own1 Us q ≤ 1 ∧ (own1 Us q = 1 ↔ ∃ u ∈ Us, ownerM q = some u)
  | [], _ => by simp [own1]
  | u :: Us, h => by
    obtain ⟨h1, h2⟩ := List.nodup_cons.1 h
    have ih := own1_le (q := q) h2
    by_cases ho : ownerM q = some u
    · have h3 : own1 Us q = 0 := own1_none fun z hz e => by
        rw [ho] at e
        cases e
        exact h1 hz
      have h4 : own1 (u :: Us) q = 1 := by
        unfold own1 at h3 ⊢
        rw [List.filter_cons_of_pos (by simp [isOwn, ho]), List.length_cons, h3]
      rw [h4]
      exact ⟨Nat.le_refl _, fun _ => ⟨u, List.mem_cons_self, ho⟩, fun _ => rfl⟩
    · have h4 : own1 (u :: Us) q = own1 Us q := by
        unfold own1
        rw [List.filter_cons_of_neg (by simp [isOwn, ho])]
      rw [h4]
      refine ⟨ih.1, ih.2.trans ?_⟩
      constructor
      · rintro ⟨z, hz, e⟩; exact ⟨z, List.mem_cons_of_mem _ hz, e⟩
      · rintro ⟨z, hz, e⟩
        rcases List.mem_cons.1 hz with rfl | hz
        · exact absurd e ho
        · exact ⟨z, hz, e⟩
theorem sum_full (f : PM → Nat) : ∀ L : List PM, (∀ q ∈ L, f q ≤ 1) → (sumN (L.map f) ≤ L.length ∧ (sumN (L.map f) = L.length ↔ ∀ q ∈ L, f q = 1))
  | [], _ => by simp [sumN]
  | q :: L, h => by
    obtain ⟨h1, h2⟩ := sum_full f L fun x hx => h x (List.mem_cons_of_mem _ hx)
    have h3 := h q List.mem_cons_self
    rw [List.map_cons, List.length_cons]
    show f q + sumN _ ≤ _ ∧ (f q + sumN _ = _ ↔ _)
    refine ⟨by omega, ?_⟩
    constructor
    · intro h4 x hx
      rcases List.mem_cons.1 hx with rfl | hx
      · omega
      · exact h2.1 (by omega) x hx
    · intro h4
      have h5 := h2.2 fun x hx => h4 x (List.mem_cons_of_mem _ hx)
      have h6 := h4 q List.mem_cons_self
      omega
theorem sum_add (f g : PM → Nat) : ∀ L : List PM, sumN (L.map fun q => f q + g q) = sumN (L.map f) + sumN (L.map g)
  | [] => rfl
  | q :: L => by
    have ih := sum_add f g L
    rw [List.map_cons, List.map_cons, List.map_cons]
    show (f q + g q) + sumN _ = (f q + sumN _) + (g q + sumN _)
    omega
theorem sum_one {k : ByteArray} : ∀ {L : List PM}, UpL L → (∃ q ∈ L, q.1 = k) → sumN (L.map fun q => if q.1 = k then 1 else 0) = 1
  | [], _, ⟨_, h, _⟩ => by cases h
  | q :: L, hu, hx => by
    obtain ⟨h1, h2⟩ := List.pairwise_cons.1 hu
    rw [List.map_cons]
    show (if q.1 = k then 1 else 0) + sumN _ = 1
    by_cases e : q.1 = k
    · rw [if_pos e]
      have h3 : ∀ z ∈ L, z.1 ≠ k := fun z hz e9 => by
        have h9 := h1 z hz
        rw [e, e9] at h9
        exact ltK_irrefl _ h9
      have h4 : ∀ {M : List PM}, (∀ z ∈ M, z.1 ≠ k) → sumN (M.map fun q => if q.1 = k then 1 else 0) = 0 := by
        intro M hM
        induction M with
        | nil => rfl
        | cons z M ih =>
          rw [List.map_cons]
          show (if z.1 = k then 1 else 0) + sumN _ = 0
          rw [if_neg (hM z List.mem_cons_self), ih fun y hy => hM y (List.mem_cons_of_mem _ hy)]
      rw [h4 h3]
    · rw [if_neg e]
      obtain ⟨z, hz, ez⟩ := hx
      rcases List.mem_cons.1 hz with rfl | hz
      · exact absurd ez e
      · rw [sum_one h2 ⟨z, hz, ez⟩]
theorem userI_key {k : ByteArray} (h : userI k = true) : k = userK (userN k) := by
  unfold userI Lib.hasPrefix at h
  obtain ⟨r, hr⟩ := List.isPrefixOf_iff_prefix.1 h
  have h2 : (userN k).data.toList = r := by
    unfold userN Lib.trimPrefix Lib.hasPrefix
    rw [if_pos h, ← hr]
    rfl
  apply bs_inj
  rw [← hr, show (userK (userN k)).data.toList = 117 :: 47 :: (userN k).data.toList by simp [userK, ByteArray.data_append], h2]
  rfl
theorem userI_of (u : ByteArray) : userI (userK u) = true ∧ userN (userK u) = u := by
  have h1 : (userK u).data.toList = 117 :: 47 :: u.data.toList := by simp [userK, ByteArray.data_append]
  have h2 : userI (userK u) = true := by
    unfold userI Lib.hasPrefix
    rw [h1]
    simp
  refine ⟨h2, bs_inj ?_⟩
  unfold userN Lib.trimPrefix
  unfold userI at h2
  rw [if_pos h2, h1]
  rfl
theorem users_mem {L : List PM} {u : ByteArray} : u ∈ usersOf L ↔ ∃ q ∈ L, q.1 = userK u := by
  unfold usersOf
  rw [List.mem_map]
  constructor
  · rintro ⟨q, hq, rfl⟩
    rw [List.mem_filter] at hq
    exact ⟨q, hq.1, userI_key hq.2⟩
  · rintro ⟨q, hq, e⟩
    refine ⟨q, List.mem_filter.2 ⟨hq, ?_⟩, ?_⟩
    · rw [e]; exact (userI_of u).1
    · rw [e]; exact (userI_of u).2
theorem users_nodup {L : List PM} (hu : UpL L) : (usersOf L).Nodup := by
  unfold usersOf
  rw [List.Nodup, List.pairwise_map]
  have h1 : (L.filter fun p => userI p.1).Pairwise fun x y => ltK x.1 y.1 := List.Pairwise.filter _ hu
  refine List.Pairwise.imp_of_mem ?_ h1
  intro x y hx hy hlt e
  rw [List.mem_filter] at hx hy
  rw [userI_key hx.2, userI_key hy.2, e] at hlt
  exact ltK_irrefl _ hlt
theorem owner_v {q : PM} (h : q.1 = vK) : ownerM q = none := by
  unfold ownerM
  rw [h]
  rfl
/-- What the program's count tells. -/
theorem known_iff {nx : Int} {L : List PM} (hn : nx = nextM L) (hu : UpL L) (hv : ∃ q ∈ L, q.1 = vK) :
    knownB L = true ↔ (∀ u, (∃ q ∈ L, q.1 = userK u) → layF nx u S0 L = true) ∧ ∀ q ∈ L, q.1 = vK ∨ ∃ u, ownerM q = some u ∧ ∃ z ∈ L, z.1 = userK u := by
  unfold knownB
  rw [← hn, known_eq]
  have hnd := users_nodup hu
  have h1 := sum_one hu hv
  have h2 := sum_add (own1 (usersOf L)) (fun q => if q.1 = vK then 1 else 0) L
  have hle : ∀ q ∈ L, own1 (usersOf L) q + (if q.1 = vK then 1 else 0) ≤ 1 := fun q hq => by
    by_cases e : q.1 = vK
    · rw [if_pos e, own1_none fun u hu9 h9 => by rw [owner_v e] at h9; cases h9]
      exact Nat.le_refl _
    · rw [if_neg e]; exact (own1_le hnd).1
  have h3 := sum_full (fun q => own1 (usersOf L) q + (if q.1 = vK then 1 else 0)) L hle
  have hall : (usersOf L).all (fun u => layF nx u S0 L) = true ↔ ∀ u, (∃ q ∈ L, q.1 = userK u) → layF nx u S0 L = true := by
    rw [List.all_eq_true]
    exact ⟨fun h u hx => h u (users_mem.2 hx), fun h u hx => h u (users_mem.1 hx)⟩
  have hq : (∀ q ∈ L, own1 (usersOf L) q + (if q.1 = vK then 1 else 0) = 1) ↔ ∀ q ∈ L, q.1 = vK ∨ ∃ u, ownerM q = some u ∧ ∃ z ∈ L, z.1 = userK u := by
    constructor
    · intro h q hq
      by_cases e : q.1 = vK
      · exact .inl e
      · have h9 := h q hq
        rw [if_neg e, Nat.add_zero] at h9
        obtain ⟨u, h7, h6⟩ := (own1_le hnd).2.1 h9
        exact .inr ⟨u, h6, users_mem.1 h7⟩
    · intro h q hq
      rcases h q hq with e | ⟨u, h7, h6⟩
      · rw [if_pos e, own1_none fun u hu9 h9 => by rw [owner_v e] at h9; cases h9]
      · have e : q.1 ≠ vK := fun e => by rw [owner_v e] at h7; cases h7
        rw [if_neg e, Nat.add_zero]
        exact (own1_le hnd).2.2 ⟨u, users_mem.2 h6, h7⟩
  rw [← hall, ← hq, ← h3.2, h2, h1, swap_all]
  by_cases ha : (usersOf L).all (fun u => layF nx u S0 L) = true
  · rw [if_pos ha]
    simp only [ha, true_and, decide_eq_true_eq]
    omega
  · rw [if_neg ha]
    simp [ha]
end Go.Proofs.YthgbclipknfmjaaGreatDoor
