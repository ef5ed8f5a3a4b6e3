/-
  Eqa Eqb Eqc in one. By an AI agent.
-/
import Derived.Test.YtddnecljdecamaaGreatDoorQ12
import Derived.Test.YtddnecljdecamaaGreatDoorQ14
namespace Go.Proofs.YtddnecljdecamaaGreatDoor
open Go.ChangeShapes Go.WideShapes Go.ChangeAt Go.RowKit Go.Deep Go.Lib
set_option linter.unusedVariables false
set_option linter.unusedSimpArgs false
set_option maxRecDepth 100000

def ownerG : List (List UInt8) → Option ByteArray
  | [a, b] => if a = [117] then some (bs b) else none
  | [a, b, _] => if a = [102] then some (bs b) else none
  | [a, b, _, _] => if a = [109] then some (bs b) else none
  | _ => none
def ownerM (p : PM) : Option ByteArray := ownerG (splitL 47 p.1.data.toList)
theorem take_other {nx : Int} {u : ByteArray} {S : SM} {p : PM} {G : List (List UInt8)} (h : ownerG G ≠ some u) : takeP nx u S p G = asideM S p := by
  match G, h with
  | [], _ => rfl
  | [_], _ => rfl
  | [a, b], h => exact if_neg fun h9 => h (by show (if a = [117] then _ else _) = _; rw [if_pos h9.2, h9.1])
  | [a, b, c], h => exact if_neg fun h9 => h (by show (if a = [102] then _ else _) = _; rw [if_pos h9.2, h9.1])
  | [a, b, c, d], h => exact if_neg fun h9 => h (by show (if a = [109] then _ else _) = _; rw [if_pos h9.2, h9.1])
  | _ :: _ :: _ :: _ :: _ :: _, _ => rfl
theorem put_aside {S S' : SM} {o : Option FM} (h : putM S o = some S') : S'.aside = S.aside ∧ S'.word = S.word := by
  unfold putM at h
  obtain ⟨g, rfl, rfl⟩ := Option.map_eq_some_iff.1 h
  exact ⟨rfl, rfl⟩
theorem ite_some {α : Type} {c : Prop} [Decidable c] {x y : α} (h : (if c then some x else none) = some y) : c ∧ x = y := by
  split at h
  · cases h; exact ⟨by assumption, rfl⟩
  · cases h
theorem take_own {nx : Int} {u : ByteArray} {S S' : SM} {p : PM} {G : List (List UInt8)} (h : ownerG G = some u) (hs : takeP nx u S p G = some S') : S'.aside = S.aside := by
  match G, h, hs with
  | [], h, _ => cases h
  | [_], h, _ => cases h
  | [a, b], h, hs =>
    obtain ⟨h1, h2⟩ := ite_some h
    have h3 : takeP nx u S p [a, b] = userM u S p.2 := if_pos ⟨h2, h1⟩
    rw [h3] at hs
    unfold userM at hs
    split at hs
    · cases hs; rfl
    · cases hs
  | [a, b, c], h, hs =>
    obtain ⟨h1, h2⟩ := ite_some h
    have h3 : takeP nx u S p [a, b, c] = putM S (folderM nx (bs c) p.2) := if_pos ⟨h2, h1⟩
    rw [h3] at hs
    exact (put_aside hs).1
  | [a, b, c, d], h, hs =>
    obtain ⟨h1, h2⟩ := ite_some h
    have h3 : takeP nx u S p [a, b, c, d] = putM S (mailM S.fs (bs c) (bs d) p.2) := if_pos ⟨h2, h1⟩
    rw [h3] at hs
    exact (put_aside hs).1
  | _ :: _ :: _ :: _ :: _ :: _, h, _ => cases h
abbrev isOwn (u : ByteArray) (p : PM) : Bool := decide (ownerM p = some u)
theorem all_aside {nx : Int} {u : ByteArray} : ∀ {L : List PM} {S S' : SM}, takeAll nx u S L = some S' → S'.aside = S.aside ++ L.filter fun p => !isOwn u p
  | [], S, S', h => by cases h; simp
  | p :: L, S, S', h => by
    unfold takeAll at h
    obtain ⟨S1, h1, h2⟩ := Option.bind_eq_some_iff.1 h
    have ih := all_aside h2
    by_cases ho : ownerM p = some u
    · have h3 : S1.aside = S.aside := take_own ho h1
      rw [ih, h3, List.filter_cons_of_neg (by simp [isOwn, ho])]
    · have h3 : asideM S p = some S1 := (take_other ho).symm.trans h1
      cases h3
      rw [ih, List.filter_cons_of_pos (by simp [isOwn, ho])]
      simp
theorem len_split {α : Type} (f : α → Bool) : ∀ L : List α, (L.filter f).length + (L.filter fun x => !f x).length = L.length
  | [] => rfl
  | x :: L => by
    have ih := len_split f L
    cases h : f x with
    | true => rw [List.filter_cons_of_pos h, List.filter_cons_of_neg (by simp [h]), List.length_cons, List.length_cons]; omega
    | false => rw [List.filter_cons_of_neg (by simp [h]), List.filter_cons_of_pos (by simp [h]), List.length_cons, List.length_cons]; omega
def ownN (u : ByteArray) (L : List PM) : Nat := (L.filter (isOwn u)).length
theorem aside_own {nx : Int} {u : ByteArray} {L : List PM} (h : layF nx u S0 L = true) : L.length - asideN nx u L = ownN u L := by
  unfold layF at h
  split at h
  · rename_i S hS
    have h1 := all_aside hS
    have h2 := len_split (isOwn u) L
    unfold asideN ownN
    rw [hS]
    show L.length - S.aside.length = _
    rw [h1]
    show L.length - ([] ++ L.filter fun p => !isOwn u p).length = _
    rw [List.nil_append]
    omega
  · cases h
def sumN : List Nat → Nat
  | [] => 0
  | x :: l => x + sumN l
def usersOf (L : List PM) : List ByteArray := (L.filter fun p => userI p.1).map fun p => userN p.1
theorem known_eq {nx : Int} {L0 : List PM} : ∀ (L : List PM) (t : Nat), knownM nx L0 t L = if (usersOf L).all (fun u => layF nx u S0 L0) = true then some (t + sumN ((usersOf L).map fun u => ownN u L0)) else none
  | [], t => rfl
  | p :: L, t => by
    unfold knownM
    cases hu : userI p.1 with
    | false =>
      have h1 : usersOf (p :: L) = usersOf L := by unfold usersOf; rw [List.filter_cons_of_neg (by simp [hu])]
      rw [if_neg (by simp), h1]
      exact known_eq L t
    | true =>
      have h1 : usersOf (p :: L) = userN p.1 :: usersOf L := by unfold usersOf; rw [List.filter_cons_of_pos (by simp [hu])]; rfl
      rw [if_pos rfl, h1, List.all_cons, List.map_cons]
      cases hl : layF nx (userN p.1) S0 L0 with
      | false => simp
      | true =>
        rw [if_pos rfl, known_eq L, aside_own hl, Bool.true_and]
        show _ = if _ then some (t + (ownN (userN p.1) L0 + sumN _)) else none
        rw [Nat.add_assoc]
def own1 (Us : List ByteArray) (q : PM) : Nat := (Us.filter fun u => isOwn u q).length
theorem swap_one (q : PM) (L : List PM) : ∀ Us : List ByteArray, sumN (Us.map fun u => ownN u (q :: L)) = own1 Us q + sumN (Us.map fun u => ownN u L)
  | [] => rfl
  | u :: Us => by
    have ih := swap_one q L Us
    rw [List.map_cons, List.map_cons]
    show ownN u (q :: L) + sumN _ = _ + (ownN u L + sumN _)
    rw [ih]
    unfold ownN own1
    cases h : isOwn u q with
    | true => simp only [List.filter_cons, h, if_true, List.length_cons]; omega
    | false => simp only [List.filter_cons, h, Bool.false_eq_true, if_false]; omega
theorem swap_all (Us : List ByteArray) : ∀ L : List PM, sumN (Us.map fun u => ownN u L) = sumN (L.map (own1 Us))
  | [] => by
    induction Us with
    | nil => rfl
    | cons u Us ih => rw [List.map_cons]; show 0 + sumN _ = _; rw [ih]; rfl
  | q :: L => by rw [swap_one, swap_all Us L]; rfl
theorem own1_none {q : PM} : ∀ {Us : List ByteArray}, (∀ u ∈ Us, ownerM q ≠ some u) → own1 Us q = 0
  | Us, h => by
    unfold own1
    rw [List.length_eq_zero_iff, List.filter_eq_nil_iff]
    intro u hu
    simp [isOwn, h u hu]
theorem own1_le {q : PM} : ∀ {Us : List ByteArray}, Us.Nodup → own1 Us q ≤ 1 ∧ (own1 Us q = 1 ↔ ∃ u ∈ Us, ownerM q = some u)
  | [], _ => by simp [own1]
  | u :: Us, h => by
    obtain ⟨h1, h2⟩ := List.nodup_cons.1 h
    have ih := own1_le (q := q) h2
    by_cases ho : ownerM q = some u
    · have h3 : own1 Us q = 0 := own1_none fun z hz e => by
        rw [ho] at e
        cases e
        exact h1 hz
      have h4 : own1 (u :: Us) q = 1 := by
        unfold own1 at h3 ⊢
        rw [List.filter_cons_of_pos (by simp [isOwn, ho]), List.length_cons, h3]
      rw [h4]
      exact ⟨Nat.le_refl _, fun _ => ⟨u, List.mem_cons_self, ho⟩, fun _ => rfl⟩
    · have h4 : own1 (u :: Us) q = own1 Us q := by
        unfold own1
        rw [List.filter_cons_of_neg (by simp [isOwn, ho])]
      rw [h4]
      refine ⟨ih.1, ih.2.trans ?_⟩
      constructor
      · rintro ⟨z, hz, e⟩; exact ⟨z, List.mem_cons_of_mem _ hz, e⟩
      · rintro ⟨z, hz, e⟩
        rcases List.mem_cons.1 hz with rfl | hz
        · exact absurd e ho
        · exact ⟨z, hz, e⟩
theorem sum_full (f : PM → Nat) : ∀ L : List PM, (∀ q ∈ L, f q ≤ 1) → (sumN (L.map f) ≤ L.length ∧ (sumN (L.map f) = L.length ↔ ∀ q ∈ L, f q = 1))
  | [], _ => by simp [sumN]
  | q :: L, h => by
    obtain ⟨h1, h2⟩ := sum_full f L fun x hx => h x (List.mem_cons_of_mem _ hx)
    have h3 := h q List.mem_cons_self
    rw [List.map_cons, List.length_cons]
    show f q + sumN _ ≤ _ ∧ (f q + sumN _ = _ ↔ _)
    refine ⟨by omega, ?_⟩
    constructor
    · intro h4 x hx
      rcases List.mem_cons.1 hx with rfl | hx
      · omega
      · exact h2.1 (by omega) x hx
    · intro h4
      have h5 := h2.2 fun x hx => h4 x (List.mem_cons_of_mem _ hx)
      have h6 := h4 q List.mem_cons_self
      omega
theorem sum_add (f g : PM → Nat) : ∀ L : List PM, sumN (L.map fun q => f q + g q) = sumN (L.map f) + sumN (L.map g)
  | [] => rfl
  | q :: L => by
    have ih := sum_add f g L
    rw [List.map_cons, List.map_cons, List.map_cons]
    show (f q + g q) + sumN _ = (f q + sumN _) + (g q + sumN _)
    omega
theorem sum_one {k : ByteArray} : ∀ {L : List PM}, UpL L → (∃ q ∈ L, q.1 = k) → sumN (L.map fun q => if q.1 = k then 1 else 0) = 1
  | [], _, ⟨_, h, _⟩ => by cases h
  | q :: L, hu, hx => by
    obtain ⟨h1, h2⟩ := List.pairwise_cons.1 hu
    rw [List.map_cons]
    show (if q.1 = k then 1 else 0) + sumN _ = 1
    by_cases e : q.1 = k
    · rw [if_pos e]
      have h3 : ∀ z ∈ L, z.1 ≠ k := fun z hz e9 => by
        have h9 := h1 z hz
        rw [e, e9] at h9
        exact ltK_irrefl _ h9
      have h4 : ∀ {M : List PM}, (∀ z ∈ M, z.1 ≠ k) → sumN (M.map fun q => if q.1 = k then 1 else 0) = 0 := by
        intro M hM
        induction M with
        | nil => rfl
        | cons z M ih =>
          rw [List.map_cons]
          show (if z.1 = k then 1 else 0) + sumN _ = 0
          rw [if_neg (hM z List.mem_cons_self), ih fun y hy => hM y (List.mem_cons_of_mem _ hy)]
      rw [h4 h3]
    · rw [if_neg e]
      obtain ⟨z, hz, ez⟩ := hx
      rcases List.mem_cons.1 hz with rfl | hz
      · exact absurd ez e
      · rw [sum_one h2 ⟨z, hz, ez⟩]
theorem userI_key {k : ByteArray} (h : userI k = true) : k = userK (userN k) := by
  unfold userI Lib.hasPrefix at h
  obtain ⟨r, hr⟩ := List.isPrefixOf_iff_prefix.1 h
  have h2 : (userN k).data.toList = r := by
    unfold userN Lib.trimPrefix Lib.hasPrefix
    rw [if_pos h, ← hr]
    rfl
  apply bs_inj
  rw [← hr, show (userK (userN k)).data.toList = 117 :: 47 :: (userN k).data.toList by simp [userK, ByteArray.data_append], h2]
  rfl
theorem userI_of (u : ByteArray) : userI (userK u) = true ∧ userN (userK u) = u := by
  have h1 : (userK u).data.toList = 117 :: 47 :: u.data.toList := by simp [userK, ByteArray.data_append]
  have h2 : userI (userK u) = true := by
    unfold userI Lib.hasPrefix
    rw [h1]
    simp
  refine ⟨h2, bs_inj ?_⟩
  unfold userN Lib.trimPrefix
  unfold userI at h2
  rw [if_pos h2, h1]
  rfl
theorem users_mem {L : List PM} {u : ByteArray} : u ∈ usersOf L ↔ ∃ q ∈ L, q.1 = userK u := by
  unfold usersOf
  rw [List.mem_map]
  constructor
  · rintro ⟨q, hq, rfl⟩
    rw [List.mem_filter] at hq
    exact ⟨q, hq.1, userI_key hq.2⟩
  · rintro ⟨q, hq, e⟩
    refine ⟨q, List.mem_filter.2 ⟨hq, ?_⟩, ?_⟩
    · rw [e]; exact (userI_of u).1
    · rw [e]; exact (userI_of u).2
theorem users_nodup {L : List PM} (hu : UpL L) : (usersOf L).Nodup := by
  unfold usersOf
  rw [List.Nodup, List.pairwise_map]
  have h1 : (L.filter fun p => userI p.1).Pairwise fun x y => ltK x.1 y.1 := List.Pairwise.filter _ hu
  refine List.Pairwise.imp_of_mem ?_ h1
  intro x y hx hy hlt e
  rw [List.mem_filter] at hx hy
  rw [userI_key hx.2, userI_key hy.2, e] at hlt
  exact ltK_irrefl _ hlt
theorem owner_v {q : PM} (h : q.1 = vK) : ownerM q = none := by
  unfold ownerM
  rw [h]
  rfl
/-- What the program's count tells. -/
theorem known_iff {nx : Int} {L : List PM} (hn : nx = nextM L) (hu : UpL L) (hv : ∃ q ∈ L, q.1 = vK) :
    knownB L = true ↔ (∀ u, (∃ q ∈ L, q.1 = userK u) → layF nx u S0 L = true) ∧ ∀ q ∈ L, q.1 = vK ∨ ∃ u, ownerM q = some u ∧ ∃ z ∈ L, z.1 = userK u := by
  unfold knownB
  rw [← hn, known_eq]
  have hnd := users_nodup hu
  have h1 := sum_one hu hv
  have h2 := sum_add (own1 (usersOf L)) (fun q => if q.1 = vK then 1 else 0) L
  have hle : ∀ q ∈ L, own1 (usersOf L) q + (if q.1 = vK then 1 else 0) ≤ 1 := fun q hq => by
    by_cases e : q.1 = vK
    · rw [if_pos e, own1_none fun u hu9 h9 => by rw [owner_v e] at h9; cases h9]
      exact Nat.le_refl _
    · rw [if_neg e]; exact (own1_le hnd).1
  have h3 := sum_full (fun q => own1 (usersOf L) q + (if q.1 = vK then 1 else 0)) L hle
  have hall : (usersOf L).all (fun u => layF nx u S0 L) = true ↔ ∀ u, (∃ q ∈ L, q.1 = userK u) → layF nx u S0 L = true := by
    rw [List.all_eq_true]
    exact ⟨fun h u hx => h u (users_mem.2 hx), fun h u hx => h u (users_mem.1 hx)⟩
  have hq : (∀ q ∈ L, own1 (usersOf L) q + (if q.1 = vK then 1 else 0) = 1) ↔ ∀ q ∈ L, q.1 = vK ∨ ∃ u, ownerM q = some u ∧ ∃ z ∈ L, z.1 = userK u := by
    constructor
    · intro h q hq
      by_cases e : q.1 = vK
      · exact .inl e
      · have h9 := h q hq
        rw [if_neg e, Nat.add_zero] at h9
        obtain ⟨u, h7, h6⟩ := (own1_le hnd).2.1 h9
        exact .inr ⟨u, h6, users_mem.1 h7⟩
    · intro h q hq
      rcases h q hq with e | ⟨u, h7, h6⟩
      · rw [if_pos e, own1_none fun u hu9 h9 => by rw [owner_v e] at h9; cases h9]
      · have e : q.1 ≠ vK := fun e => by rw [owner_v e] at h7; cases h7
        rw [if_neg e, Nat.add_zero]
        exact (own1_le hnd).2.2 ⟨u, users_mem.2 h6, h7⟩
  rw [← hall, ← hq, ← h3.2, h2, h1, swap_all]
  by_cases ha : (usersOf L).all (fun u => layF nx u S0 L) = true
  · rw [if_pos ha]
    simp only [ha, true_and, decide_eq_true_eq]
    omega
  · rw [if_neg ha]
    simp [ha]
end Go.Proofs.YtddnecljdecamaaGreatDoor
namespace Go.Proofs.YtddnecljdecamaaGreatDoor
open Go.ChangeShapes Go.WideShapes Go.ChangeAt Go.RowKit Go.Deep Go.Lib
set_option linter.unusedVariables false
set_option linter.unusedSimpArgs false
set_option maxRecDepth 100000

theorem split_back {c : UInt8} : ∀ {l a b : List UInt8} {r : List (List UInt8)}, splitL c l = a :: b :: r → ∃ rest, l = a ++ c :: rest ∧ splitL c rest = b :: r ∧ c ∉ a
  | [], a, b, r, h => by cases h
  | x :: l, a, b, r, h => by
    unfold splitL at h
    by_cases e : x = c
    · rw [if_pos e] at h
      injection h with h1 h2
      exact ⟨l, by rw [e, ← h1]; rfl, h2, by rw [← h1]; simp⟩
    · rw [if_neg e] at h
      split at h
      · cases h
      · rename_i hd t h1
        injection h with k1 k2
        rw [k2] at h1
        obtain ⟨rest, h2, h3, h4⟩ := split_back h1
        exact ⟨rest, by rw [h2, ← k1]; rfl, h3, fun h9 => by
          rw [← k1] at h9
          rcases List.mem_cons.1 h9 with h9 | h9
          · exact e h9.symm
          · exact h4 h9⟩
theorem split_one {c : UInt8} {l a : List UInt8} (h : splitL c l = [a]) : l = a ∧ c ∉ a := by
  have h1 := splitL_length c l
  rw [h] at h1
  have h2 : c ∉ l := List.count_eq_zero.1 (by simp at h1; omega)
  have h3 := splitL_whole c l h2
  rw [h] at h3
  cases h3
  exact ⟨rfl, h2⟩
theorem dec_space : ∀ {l : List UInt8} {acc u : Nat}, decFrom acc l = some u → (32 : UInt8) ∉ l
  | [], _, _, _ => by simp
  | c :: l, acc, u, h => by
    unfold decFrom at h
    intro h9
    cases hd : digitVal c with
    | none => rw [hd] at h; cases h
    | some d =>
      rw [hd] at h
      rcases List.mem_cons.1 h9 with h9 | h9
      · rw [← h9] at hd
        rw [show digitVal 32 = none by decide] at hd
        cases hd
      · exact dec_space h h9
theorem num_space {t : List UInt8} {n : Int} (h : numB t = some n) : (32 : UInt8) ∉ t := by
  have hm : ∀ {neg : Bool} {ds : List UInt8} {n : Int}, magB neg ds = some n → (32 : UInt8) ∉ ds := by
    intro neg ds n h
    unfold magB at h
    split at h
    · cases h
    · obtain ⟨u, h1, _⟩ := Option.map_eq_some_iff.1 h
      exact dec_space h1
  match t, h with
  | [], _ => simp
  | c :: r, h =>
    have h : (if c = 45 then magB true r else magB false (c :: r)) = some n := h
    split at h
    · rename_i e
      intro h9
      rcases List.mem_cons.1 h9 with h9 | h9
      · rw [e] at h9; exact absurd h9 (by decide)
      · exact hm h h9
    · exact hm h
theorem metaN_some {a b : Option Int} {p : Int × Int} : metaN a b = some p ↔ a = some p.1 ∧ b = some p.2 ∧ 1 ≤ p.1 ∧ p.1 ≤ 9999 ∧ 1 ≤ p.2 ∧ p.2 ≤ 999 := by
  match a, b with
  | none, none => simp [metaN]
  | none, some _ => simp [metaN]
  | some _, none => simp [metaN]
  | some x, some y =>
    show (if _ then _ else _) = _ ↔ _
    constructor
    · intro h
      obtain ⟨h1, rfl⟩ := ite_some h
      exact ⟨rfl, rfl, h1.1, h1.2.1, h1.2.2.1, h1.2.2.2⟩
    · rintro ⟨h1, h2, h3, h4, h5, h6⟩
      cases h1; cases h2
      rw [if_pos ⟨h3, h4, h5, h6⟩]
theorem folderN_some {nx : Int} {name : ByteArray} {a b : Option Int} {f : FM} : folderN nx name a b = some f ↔ shortB name = true ∧ a = some f.val ∧ b = some f.next ∧ 1 ≤ f.val ∧ f.val ≤ nx - 1 ∧ 1 ≤ f.next ∧ f.next ≤ 999 ∧ f = ⟨name, f.val, f.next, []⟩ := by
  match a, b with
  | none, none => simp [folderN]
  | none, some _ => simp [folderN]
  | some _, none => simp [folderN]
  | some x, some y =>
    show (if _ then _ else _) = _ ↔ _
    constructor
    · intro h
      obtain ⟨h1, rfl⟩ := ite_some h
      exact ⟨h1.1, rfl, rfl, h1.2.1, h1.2.2.1, h1.2.2.2.1, h1.2.2.2.2, rfl⟩
    · rintro ⟨h1, h2, h3, h4, h5, h6, h7, h8⟩
      cases h2; cases h3
      rw [if_pos ⟨h1, h4, h5, h6, h7⟩]
      exact congrArg some h8.symm
theorem folder_meta {nx : Int} (hnx : nx ≤ 10000) {name v : ByteArray} {f : FM} : folderM nx name v = some f ↔ shortB name = true ∧ metaV v = some (f.val, f.next) ∧ f.val < nx ∧ f = ⟨name, f.val, f.next, []⟩ := by
  unfold folderM metaV
  rw [folderN_some]
  match hs : splitL 32 v.data.toList with
  | [] => exact absurd hs (splitL_ne 32 _)
  | [a] =>
    obtain ⟨h1, h2⟩ := split_one hs
    rw [h1, cut_no 32 a h2]
    constructor
    · rintro ⟨_, _, h, _⟩; cases h
    · rintro ⟨_, h, _⟩; cases h
  | a :: b :: r =>
    obtain ⟨rest, h1, h2, h3⟩ := split_back hs
    rw [h1, cut_yes 32 a rest h3]
    match r, h2 with
    | [], h2 =>
      obtain ⟨h4, h5⟩ := split_one h2
      subst h4
      show _ ↔ _ ∧ metaN (numB a) (numB rest) = _ ∧ _
      rw [metaN_some]
      constructor
      · rintro ⟨k1, k2, k3, k4, k5, k6, k7, k8⟩
        exact ⟨k1, ⟨k2, k3, k4, by show f.val ≤ 9999; omega, k6, k7⟩, by omega, k8⟩
      · rintro ⟨k1, ⟨k2, k3, k4, k5, k6, k7⟩, k8, k9⟩
        exact ⟨k1, k2, k3, k4, by omega, k6, k7, k9⟩
    | c :: r, h2 =>
      constructor
      · rintro ⟨_, _, h, _⟩
        have h9 := num_space h
        obtain ⟨rest2, h7, _⟩ := split_back h2
        exact absurd (by show (32 : UInt8) ∈ rest; rw [h7]; simp) h9
      · rintro ⟨_, h, _⟩; cases h
theorem meta_text {v : ByteArray} {p : Int × Int} (h : metaV v = some p) : v = metaT p.1 p.2 := by
  unfold metaV at h
  match hs : splitL 32 v.data.toList, h with
  | [a, b], h =>
    obtain ⟨h1, h2, _⟩ := metaN_some.1 h
    obtain ⟨rest, h3, h4, _⟩ := split_back hs
    obtain ⟨h5, _⟩ := split_one h4
    have h6 := (is_of_num h1).1
    have h7 := (is_of_num h2).1
    apply bs_inj
    unfold metaT
    rw [h3, h5, h6, h7]
    simp [ByteArray.data_append]
    rfl
theorem key_user {k : ByteArray} {b : List UInt8} (h : splitL 47 k.data.toList = [[117], b]) : k = userK (bs b) ∧ (47 : UInt8) ∉ b := by
  obtain ⟨r, h1, h2, _⟩ := split_back h
  obtain ⟨h3, h4⟩ := split_one h2
  refine ⟨bs_inj ?_, h4⟩
  rw [h1, h3]
  simp [userK, ByteArray.data_append]
  rfl
theorem key_folder {k : ByteArray} {b c : List UInt8} (h : splitL 47 k.data.toList = [[102], b, c]) : k = folderK (bs b) (bs c) ∧ (47 : UInt8) ∉ b ∧ (47 : UInt8) ∉ c := by
  obtain ⟨r, h1, h2, _⟩ := split_back h
  obtain ⟨r2, h3, h4, h5⟩ := split_back h2
  obtain ⟨h6, h7⟩ := split_one h4
  refine ⟨bs_inj ?_, h5, h7⟩
  rw [folderK_data, h1, h3, h6]
  rfl
theorem key_mail {k : ByteArray} {b c d : List UInt8} (h : splitL 47 k.data.toList = [[109], b, c, d]) : k.data.toList = 109 :: 47 :: (b ++ 47 :: (c ++ 47 :: d)) ∧ (47 : UInt8) ∉ b ∧ (47 : UInt8) ∉ c := by
  obtain ⟨r, h1, h2, _⟩ := split_back h
  obtain ⟨r2, h3, h4, h5⟩ := split_back h2
  obtain ⟨r3, h6, h7, h8⟩ := split_back h4
  obtain ⟨h9, _⟩ := split_one h7
  exact ⟨by rw [h1, h3, h6, h9]; rfl, h5, h8⟩
theorem parts_user {u : ByteArray} (h : (47 : UInt8) ∉ u.data.toList) : splitL 47 (userK u).data.toList = [[117], u.data.toList] := by
  have h1 : (userK u).data.toList = [117] ++ 47 :: u.data.toList := by simp [userK, ByteArray.data_append]
  rw [h1, splitL_seg 47 [117] _ (by decide), splitL_whole 47 _ h]
theorem parts_folder {u f : ByteArray} (h : (47 : UInt8) ∉ u.data.toList) (h2 : (47 : UInt8) ∉ f.data.toList) : splitL 47 (folderK u f).data.toList = [[102], u.data.toList, f.data.toList] := by
  have h1 : (folderK u f).data.toList = [102] ++ 47 :: (u.data.toList ++ 47 :: f.data.toList) := by rw [folderK_data]; rfl
  rw [h1, splitL_seg 47 [102] _ (by decide), splitL_seg 47 _ _ h, splitL_whole 47 _ h2]
/-- What an owned pair must be. -/
def okG (nx : Int) (u : ByteArray) (L : List PM) (v : ByteArray) : List (List UInt8) → Prop
  | [_, _] => shortB u = true ∧ shortB v = true
  | [_, _, c] => ∃ f, folderM nx (bs c) v = some f
  | [_, _, c, d] => ∃ w f, (folderK u (bs c), w) ∈ L ∧ folderM nx (bs c) w = some f ∧ (mailO f d v).isSome = true
  | _ => False
def isMailG (u : ByteArray) : List (List UInt8) → Bool
  | [a, b, _, _] => decide (a = [109] ∧ bs b = u)
  | _ => false
abbrev isMail (u : ByteArray) (q : PM) : Bool := isMailG u (splitL 47 q.1.data.toList)
structure Inv (nx : Int) (u : ByteArray) (P : List PM) (S : SM) : Prop where
  a : ∀ name f', lookF name S.fs = some f' → ∃ w f, (folderK u name, w) ∈ P ∧ folderM nx name w = some f ∧ f'.next = f.next
  b : ∀ name w, (47 : UInt8) ∉ name.data.toList → (folderK u name, w) ∈ P → (lookF name S.fs).isSome = true
  c : sumF S.fs = (P.filter (isMail u)).length
theorem mailO_next {f f' : FM} {d : List UInt8} {v : ByteArray} (h : f'.next = f.next) : (mailO f' d v).isSome = (mailO f d v).isSome := by
  unfold mailO
  rw [h]
  cases decFrom 0 d with
  | none => rfl
  | some n =>
    simp only [Option.bind_some]
    split <;> rfl
theorem lookF_put {g : FM} {n : ByteArray} : ∀ {fs : List FM}, lookF n (putF g fs) = if g.name = n then some g else lookF n fs
  | [] => by
    unfold putF lookF
    rfl
  | f :: fs => by
    have ih := lookF_put (g := g) (n := n) (fs := fs)
    unfold putF
    by_cases e : f.name = g.name
    · rw [if_pos e]
      unfold lookF
      by_cases h : g.name = n
      · rw [if_pos h, if_pos h]
      · rw [if_neg h, if_neg h, if_neg (by rw [e]; exact h)]
    · rw [if_neg e]
      unfold lookF
      by_cases h : f.name = n
      · rw [if_pos h, if_pos h, if_neg (by rw [← h]; exact fun h9 => e h9.symm)]
      · rw [if_neg h, if_neg h]
        exact ih
theorem sum_fresh {g : FM} : ∀ {fs : List FM}, lookF g.name fs = none → sumF (putF g fs) = sumF fs + g.mails.length
  | [], _ => by simp [putF, sumF]
  | f :: fs, h => by
    unfold lookF at h
    by_cases e : f.name = g.name
    · rw [if_pos e] at h; cases h
    · rw [if_neg e] at h
      unfold putF
      rw [if_neg e]
      unfold sumF
      have := sum_fresh h
      omega
theorem filter_snoc {α : Type} (f : α → Bool) (P : List α) (q : α) : ((P ++ [q]).filter f).length = (P.filter f).length + if f q = true then 1 else 0 := by
  rw [List.filter_append, List.length_append]
  cases h : f q <;> simp [h]
end Go.Proofs.YtddnecljdecamaaGreatDoor
namespace Go.Proofs.YtddnecljdecamaaGreatDoor
open Go.ChangeShapes Go.WideShapes Go.ChangeAt Go.RowKit Go.Deep Go.Lib
set_option linter.unusedVariables false
set_option linter.unusedSimpArgs false
set_option maxRecDepth 100000

theorem key_one {L : List PM} (hu : UpL L) {k v w : ByteArray} (h1 : (k, v) ∈ L) (h2 : (k, w) ∈ L) : v = w := by
  have h3 := (getM_mem hu).2 h1
  rw [(getM_mem hu).2 h2] at h3
  exact (Option.some.inj h3).symm
theorem owner_folder {u name w : ByteArray} (hus : (47 : UInt8) ∉ u.data.toList) (hn : (47 : UInt8) ∉ name.data.toList) : ownerM (folderK u name, w) = some u := by
  unfold ownerM
  rw [parts_folder hus hn]
  rfl
theorem mail_owner {u : ByteArray} {q : PM} (h : isMail u q = true) : ownerM q = some u := by
  unfold isMail at h
  unfold ownerM
  match hG : splitL 47 q.1.data.toList, h with
  | [a, b, c, d], h =>
    have h9 := of_decide_eq_true h
    show (if a = [109] then some (bs b) else none) = _
    rw [if_pos h9.1, h9.2]
theorem take_step {nx : Int} {u : ByteArray} {L P R : List PM} {q : PM} {S : SM} (hnx : nx ≤ 10000) (hu : UpL L) (hL : L = P ++ q :: R) (hus : (47 : UInt8) ∉ u.data.toList) (hI : Inv nx u P S) (ho : ownerM q = some u) :
    ((takeM nx u S q).isSome = true ↔ okG nx u L q.2 (splitL 47 q.1.data.toList)) ∧ ∀ S', takeM nx u S q = some S' → Inv nx u (P ++ [q]) S' := by
  have hpq : ∀ z ∈ P, ltK z.1 q.1 := fun z hz => by
    rw [hL] at hu
    exact (List.pairwise_append.1 hu).2.2 z hz q List.mem_cons_self
  have hqr : ∀ z ∈ R, ltK q.1 z.1 := fun z hz => by
    rw [hL] at hu
    exact (List.pairwise_cons.1 (List.pairwise_append.1 hu).2.1).1 z hz
  have hPL : ∀ z ∈ P, z ∈ L := fun z hz => by rw [hL]; exact List.mem_append_left _ hz
  unfold takeM
  unfold ownerM at ho
  match hG : splitL 47 q.1.data.toList, ho with
  | [a, b], ho =>
    obtain ⟨h1, h2⟩ := ite_some ho
    subst h1
    have h3 : takeP nx u S q [[117], b] = userM u S q.2 := if_pos ⟨h2, rfl⟩
    have hmf : isMail u q = false := by unfold isMail; rw [hG]; rfl
    rw [h3]
    unfold userM
    constructor
    · show _ ↔ shortB u = true ∧ shortB q.2 = true
      rw [← Bool.and_eq_true]
      split
      · simp_all
      · simp_all
    · intro S' hS
      obtain ⟨_, rfl⟩ := ite_some hS
      refine ⟨fun name f' hf => ?_, fun name w hn hm => ?_, ?_⟩
      · obtain ⟨w, f, k1, k2⟩ := hI.a name f' hf
        exact ⟨w, f, List.mem_append_left _ k1, k2⟩
      · rcases List.mem_append.1 hm with hm | hm
        · exact hI.b name w hn hm
        · have h9 := List.mem_singleton.1 hm
          rw [← h9, parts_folder hus hn] at hG
          cases hG
      · show sumF S.fs = _
        rw [filter_snoc, hmf, hI.c]
        simp
  | [a, b, c], ho =>
    obtain ⟨h1, h2⟩ := ite_some ho
    subst h1
    have h3 : takeP nx u S q [[102], b, c] = putM S (folderM nx (bs c) q.2) := if_pos ⟨h2, rfl⟩
    have hmf : isMail u q = false := by unfold isMail; rw [hG]; rfl
    obtain ⟨hk, hnb, hnc⟩ := key_folder hG
    rw [h2] at hk
    rw [h3]
    unfold putM
    constructor
    · rw [Option.isSome_map]
      exact Option.isSome_iff_exists
    · intro S' hS
      obtain ⟨g, hg, rfl⟩ := Option.map_eq_some_iff.1 hS
      have hgf := (folder_meta hnx).1 hg
      have hgn : g.name = bs c := by rw [hgf.2.2.2]
      have hgm : g.mails.length = 0 := by rw [hgf.2.2.2]; rfl
      have hno : lookF g.name S.fs = none := by
        rw [hgn]
        cases hl : lookF (bs c) S.fs with
        | none => rfl
        | some f' =>
          obtain ⟨w, f, k1, _⟩ := hI.a _ _ hl
          have k3 := hpq _ k1
          rw [hk] at k3
          exact absurd k3 (ltK_irrefl _)
      have hqe : (folderK u (bs c), q.2) = q := Prod.ext hk.symm rfl
      refine ⟨fun name f' hf => ?_, fun name w hn hm => ?_, ?_⟩
      · have hf2 : (if g.name = name then some g else lookF name S.fs) = some f' := lookF_put.symm.trans hf
        split at hf2
        · rename_i e
          cases hf2
          rw [hgn] at e
          subst e
          exact ⟨q.2, g, by rw [hqe]; exact List.mem_append_right _ (List.mem_singleton.2 rfl), hg, rfl⟩
        · obtain ⟨w, f, k1, k2⟩ := hI.a name f' hf2
          exact ⟨w, f, List.mem_append_left _ k1, k2⟩
      · show (lookF name (putF g S.fs)).isSome = true
        rw [lookF_put]
        split
        · rfl
        · rename_i e
          rcases List.mem_append.1 hm with hm | hm
          · exact hI.b name w hn hm
          · have h9 := List.mem_singleton.1 hm
            have h8 : folderK u name = folderK u (bs c) := by rw [← hk, ← h9]
            exact absurd (by rw [hgn, folderK_inj h8]) e
      · show sumF (putF g S.fs) = _
        rw [filter_snoc, hmf, sum_fresh hno, hgm, hI.c]
        simp
  | [a, b, c, d], ho =>
    obtain ⟨h1, h2⟩ := ite_some ho
    subst h1
    have h3 : takeP nx u S q [[109], b, c, d] = putM S (mailM S.fs (bs c) (bs d) q.2) := if_pos ⟨h2, rfl⟩
    have hmf : isMail u q = true := by
      unfold isMail
      rw [hG]
      exact decide_eq_true ⟨rfl, h2⟩
    obtain ⟨hk, hnb, hnc⟩ := key_mail hG
    rw [h3]
    unfold putM mailM
    constructor
    · rw [Option.isSome_map]
      show _ ↔ ∃ w f, (folderK u (bs c), w) ∈ L ∧ folderM nx (bs c) w = some f ∧ (mailO f d q.2).isSome = true
      constructor
      · intro h
        cases hl : lookF (bs c) S.fs with
        | none => rw [hl] at h; cases h
        | some f' =>
          rw [hl] at h
          obtain ⟨w, f, k1, k2, k3⟩ := hI.a _ _ hl
          exact ⟨w, f, hPL _ k1, k2, by rw [← mailO_next k3]; exact h⟩
      · rintro ⟨w, f, k1, k2, k3⟩
        have hP : (folderK u (bs c), w) ∈ P := by
          rw [hL] at k1
          rcases List.mem_append.1 k1 with k1 | k1
          · exact k1
          · exfalso
            have hne : ∀ k : ByteArray, k.data.toList = 109 :: 47 :: (b ++ 47 :: (c ++ 47 :: d)) → ¬ ltK k (folderK u (bs c)) ∧ k ≠ folderK u (bs c) := fun k hk => by
              refine ⟨fun h9 => ?_, fun h9 => ?_⟩
              · unfold ltK at h9
                rw [ByteArray.toList_eq, ByteArray.toList_eq, folderK_data, hk] at h9
                simp [Op.bytesLess] at h9
              · rw [h9, folderK_data] at hk
                simp at hk
            rcases List.mem_cons.1 k1 with k1 | k1
            · exact (hne _ hk).2 (by rw [← k1])
            · exact (hne _ hk).1 (hqr _ k1)
        obtain ⟨f', hl⟩ := Option.isSome_iff_exists.1 (hI.b (bs c) w hnc hP)
        obtain ⟨w', f2, m1, m2, m3⟩ := hI.a _ _ hl
        obtain rfl := key_one hu (hPL _ hP) (hPL _ m1)
        rw [k2] at m2
        cases m2
        rw [hl]
        show (mailO f' d q.2).isSome = true
        rw [mailO_next m3]
        exact k3
    · intro S' hS
      obtain ⟨g, hg, rfl⟩ := Option.map_eq_some_iff.1 hS
      obtain ⟨f', hl, hg2⟩ := Option.bind_eq_some_iff.1 hg
      obtain ⟨un, _, _, _, _, _, _, _, _, hgm⟩ := mailO_some hg2
      have hfn := (lookF_mem hl).2
      have hgn : g.name = bs c := by rw [hgm]; exact hfn
      have hgx : g.next = f'.next := by rw [hgm]; rfl
      have hgl : g.mails.length = f'.mails.length + 1 := by rw [hgm]; exact List.length_append
      have hl2 : lookF g.name S.fs = some f' := by rw [hgn]; exact hl
      refine ⟨fun name f2 hf => ?_, fun name w hn hm => ?_, ?_⟩
      · have hf2 : (if g.name = name then some g else lookF name S.fs) = some f2 := lookF_put.symm.trans hf
        split at hf2
        · rename_i e
          cases hf2
          rw [hgn] at e
          subst e
          obtain ⟨w, f, k1, k2, k3⟩ := hI.a _ _ hl
          exact ⟨w, f, List.mem_append_left _ k1, k2, hgx.trans k3⟩
        · obtain ⟨w, f, k1, k2⟩ := hI.a name f2 hf2
          exact ⟨w, f, List.mem_append_left _ k1, k2⟩
      · show (lookF name (putF g S.fs)).isSome = true
        rw [lookF_put]
        split
        · rfl
        · rcases List.mem_append.1 hm with hm | hm
          · exact hI.b name w hn hm
          · have h9 := List.mem_singleton.1 hm
            rw [← h9, parts_folder hus hn] at hG
            cases hG
      · show sumF (putF g S.fs) = _
        have h9 := sum_old hl2
        rw [filter_snoc, hmf, ← hI.c, if_pos rfl]
        omega
theorem aside_step {nx : Int} {u : ByteArray} {P : List PM} {q : PM} {S S' : SM} (hus : (47 : UInt8) ∉ u.data.toList) (hI : Inv nx u P S) (ho : ownerM q ≠ some u) (h : asideM S q = some S') : Inv nx u (P ++ [q]) S' := by
  cases h
  refine ⟨fun name f' hf => ?_, fun name w hn hm => ?_, ?_⟩
  · obtain ⟨w, f, k1, k2⟩ := hI.a name f' hf
    exact ⟨w, f, List.mem_append_left _ k1, k2⟩
  · rcases List.mem_append.1 hm with hm | hm
    · exact hI.b name w hn hm
    · have h9 := List.mem_singleton.1 hm
      exact absurd (by rw [← h9]; exact owner_folder hus hn) ho
  · have hmf : isMail u q = false := by
      cases h9 : isMail u q with
      | false => rfl
      | true => exact absurd (mail_owner h9) ho
    show sumF S.fs = _
    rw [filter_snoc, hmf, hI.c]
    simp
theorem all_step {nx : Int} {u : ByteArray} {L : List PM} (hnx : nx ≤ 10000) (hu : UpL L) (hus : (47 : UInt8) ∉ u.data.toList) : ∀ (R P : List PM) (S : SM), L = P ++ R → Inv nx u P S →
    ((takeAll nx u S R).isSome = true ↔ ∀ q ∈ R, ownerM q = some u → okG nx u L q.2 (splitL 47 q.1.data.toList)) ∧ ∀ S', takeAll nx u S R = some S' → Inv nx u L S'
  | [], P, S, hL, hI => by
    refine ⟨⟨fun _ q hq => (by cases hq), fun _ => rfl⟩, fun S' h => ?_⟩
    cases h
    rw [hL, List.append_nil]
    exact hI
  | q :: R, P, S, hL, hI => by
    have hL2 : L = (P ++ [q]) ++ R := by rw [hL]; simp
    unfold takeAll
    by_cases ho : ownerM q = some u
    · obtain ⟨h1, h2⟩ := take_step hnx hu hL hus hI ho
      cases ht : takeM nx u S q with
      | none =>
        rw [ht] at h1
        constructor
        · constructor
          · intro h; cases h
          · intro h
            exact absurd (h1.2 (h q List.mem_cons_self ho)) (by simp)
        · intro S' h; cases h
      | some S1 =>
        rw [ht] at h1
        obtain ⟨h3, h4⟩ := all_step hnx hu hus R (P ++ [q]) S1 hL2 (h2 S1 ht)
        refine ⟨h3.trans ?_, h4⟩
        constructor
        · intro h z hz hz2
          rcases List.mem_cons.1 hz with rfl | hz
          · exact h1.1 rfl
          · exact h z hz hz2
        · exact fun h z hz => h z (List.mem_cons_of_mem _ hz)
    · have ht : takeM nx u S q = asideM S q := take_other ho
      rw [ht]
      obtain ⟨h3, h4⟩ := all_step hnx hu hus R (P ++ [q]) _ hL2 (aside_step hus hI ho rfl)
      refine ⟨h3.trans ?_, h4⟩
      constructor
      · intro h z hz hz2
        rcases List.mem_cons.1 hz with rfl | hz
        · exact absurd hz2 ho
        · exact h z hz hz2
      · exact fun h z hz => h z (List.mem_cons_of_mem _ hz)
theorem lay_iff {nx : Int} {u : ByteArray} {L : List PM} (hnx : nx ≤ 10000) (hu : UpL L) (hus : (47 : UInt8) ∉ u.data.toList) :
    layF nx u S0 L = true ↔ (∀ q ∈ L, ownerM q = some u → okG nx u L q.2 (splitL 47 q.1.data.toList)) ∧ (∃ w f, (folderK u inboxT, w) ∈ L ∧ folderM nx inboxT w = some f) ∧ (L.filter (isMail u)).length ≤ 6 := by
  have hI : Inv nx u [] S0 := ⟨fun name f' hf => (by cases hf), fun name w _ hm => (by cases hm), rfl⟩
  obtain ⟨h1, h2⟩ := all_step hnx hu hus L [] S0 rfl hI
  unfold layF
  cases ht : takeAll nx u S0 L with
  | none =>
    rw [ht] at h1
    constructor
    · intro h; cases h
    · rintro ⟨h, _⟩; exact absurd (h1.2 h) (by simp)
  | some S' =>
    rw [ht] at h1
    have hI2 := h2 S' ht
    show ((lookF inboxT S'.fs).isSome && decide (sumF S'.fs ≤ 6)) = true ↔ _
    rw [Bool.and_eq_true, decide_eq_true_eq, hI2.c]
    constructor
    · rintro ⟨h3, h4⟩
      obtain ⟨f', hf⟩ := Option.isSome_iff_exists.1 h3
      obtain ⟨w, f, k1, k2, _⟩ := hI2.a _ _ hf
      exact ⟨h1.1 rfl, ⟨w, f, k1, k2⟩, h4⟩
    · rintro ⟨_, ⟨w, f, k1, k2⟩, h4⟩
      exact ⟨hI2.b _ w (by decide) k1, h4⟩
end Go.Proofs.YtddnecljdecamaaGreatDoor
