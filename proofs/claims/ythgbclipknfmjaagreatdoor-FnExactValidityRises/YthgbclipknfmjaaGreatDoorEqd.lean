
/-
  A mail store: the program and the specification tell the same. Lists alone. By an AI agent.
-/
import Derived.Test.YthgbclipknfmjaaGreatDoorEqc
namespace Go.Proofs.YthgbclipknfmjaaGreatDoor
open Go.ChangeShapes Go.WideShapes Go.ChangeAt Go.RowKit Go.Deep Go.Lib
set_option linter.unusedVariables false
set_option linter.unusedSimpArgs false
set_option maxRecDepth 100000

theorem get_some {L : List PM} (hu : UpL L) {k : ByteArray} : (getM L k).isSome = true ↔ ∃ q ∈ L, q.1 = k := by
  constructor
  · intro h
    obtain ⟨v, hv⟩ := Option.isSome_iff_exists.1 h
    exact ⟨(k, v), (getM_mem hu).1 hv, rfl⟩
  · rintro ⟨q, hq, rfl⟩
    rw [(getM_mem hu).2 (show (q.1, q.2) ∈ L from hq)]
    rfl
theorem meta_iff {L : List PM} (hu : UpL L) {u f : ByteArray} {p : Int × Int} : metaM L u f = some p ↔ ∃ w, (folderK u f, w) ∈ L ∧ metaV w = some p := by
  unfold metaM
  rw [Option.bind_eq_some_iff]
  constructor
  · rintro ⟨w, h1, h2⟩; exact ⟨w, (getM_mem hu).1 h1, h2⟩
  · rintro ⟨w, h1, h2⟩; exact ⟨w, (getM_mem hu).2 h1, h2⟩
/-- A key of two parts or more, its first a lone byte. -/
theorem kind_of {k : ByteArray} {c0 : UInt8} {rest : List UInt8} (h : k.data.toList = c0 :: 47 :: rest) (hr : rest ≠ []) : (decide (3 ≤ k.size) && slashB k) = true ∧ k.data.toList.headD 0 = c0 ∧ partsK k = splitL 47 rest ∧ k ≠ vK := by
  have h1 : k.size = rest.length + 2 := by rw [← bytes_len, h]; rfl
  have h2 : 1 ≤ rest.length := by cases rest with
    | nil => exact absurd rfl hr
    | cons => simp
  refine ⟨?_, by rw [h]; rfl, by unfold partsK; rw [h]; rfl, fun e => ?_⟩
  · rw [decide_eq_true (by omega)]
    unfold slashB
    rw [h]
    rfl
  · rw [e] at h
    cases h
theorem kind_back {k : ByteArray} (h : (decide (3 ≤ k.size) && slashB k) = true) : ∃ c0 rest, k.data.toList = c0 :: 47 :: rest ∧ rest ≠ [] := by
  rw [Bool.and_eq_true, decide_eq_true_eq, ← bytes_len] at h
  unfold slashB at h
  obtain ⟨h1, h2⟩ := h
  match hk : k.data.toList, h1, h2 with
  | a :: b :: c :: r, _, h2 =>
    have h3 : b = 47 := by simpa using h2
    exact ⟨a, c :: r, by rw [h3], by simp⟩
theorem parts_of {k : ByteArray} {c0 : UInt8} {rest : List UInt8} (h : k.data.toList = c0 :: 47 :: rest) (hc : c0 ≠ 47) : splitL 47 k.data.toList = [c0] :: splitL 47 rest := by
  rw [h]
  exact splitL_seg 47 [c0] rest (by simp; exact fun h9 => hc h9.symm)
/-- What the specification asks of a pair, by the key's parts. -/
def askG (L : List PM) (nx : Int) (v : ByteArray) : List (List UInt8) → Prop
  | [a, b] => a = [117] ∧ b ≠ [] ∧ pairU L v [b] = true
  | [a, b, c] => a = [102] ∧ pairF L nx v [b, c] = true
  | [a, b, c, d] => a = [109] ∧ pairE L v [b, c, d] = true
  | _ => False
theorem pair_iff {L : List PM} {nx : Int} {q : PM} (hq : q.1 ≠ vK) : pairB L nx q = true ↔ askG L nx q.2 (splitL 47 q.1.data.toList) := by
  unfold pairB
  rw [if_neg hq, Bool.and_eq_true]
  constructor
  · rintro ⟨h1, h2⟩
    obtain ⟨c0, rest, hk, hr⟩ := kind_back h1
    obtain ⟨_, k2, k3, _⟩ := kind_of hk hr
    unfold kindB at h2
    rw [k2, k3] at h2
    by_cases e1 : c0 = 117
    · rw [if_pos e1] at h2
      rw [parts_of hk (by rw [e1]; decide)]
      match hs : splitL 47 rest, h2 with
      | [b], h2 =>
        refine ⟨by rw [e1], ?_, h2⟩
        rw [← (split_one hs).1]
        exact hr
    rw [if_neg e1] at h2
    by_cases e2 : c0 = 102
    · rw [if_pos e2] at h2
      rw [parts_of hk (by rw [e2]; decide)]
      match hs : splitL 47 rest, h2 with
      | [b, c], h2 => exact ⟨by rw [e2], h2⟩
    rw [if_neg e2] at h2
    by_cases e3 : c0 = 109
    · rw [if_pos e3] at h2
      rw [parts_of hk (by rw [e3]; decide)]
      match hs : splitL 47 rest, h2 with
      | [b, c, d], h2 => exact ⟨by rw [e3], h2⟩
    rw [if_neg e3] at h2
    cases h2
  · intro h
    match hs : splitL 47 q.1.data.toList, h with
    | [a, b], ⟨h1, h2, h3⟩ =>
      subst h1
      obtain ⟨rest, k1, k2, _⟩ := split_back hs
      obtain ⟨k3, _⟩ := split_one k2
      obtain ⟨m1, m2, m3, _⟩ := kind_of (c0 := 117) k1 (by rw [k3]; exact h2)
      refine ⟨m1, ?_⟩
      unfold kindB
      rw [m2, m3, if_pos rfl, k2]
      exact h3
    | [a, b, c], ⟨h1, h3⟩ =>
      subst h1
      obtain ⟨rest, k1, k2, _⟩ := split_back hs
      obtain ⟨m1, m2, m3, _⟩ := kind_of (c0 := 102) k1 (fun e => by rw [e] at k2; cases k2)
      refine ⟨m1, ?_⟩
      unfold kindB
      rw [m2, m3, if_neg (by decide), if_pos rfl, k2]
      exact h3
    | [a, b, c, d], ⟨h1, h3⟩ =>
      subst h1
      obtain ⟨rest, k1, k2, _⟩ := split_back hs
      obtain ⟨m1, m2, m3, _⟩ := kind_of (c0 := 109) k1 (fun e => by rw [e] at k2; cases k2)
      refine ⟨m1, ?_⟩
      unfold kindB
      rw [m2, m3, if_neg (by decide), if_neg (by decide), if_pos rfl, k2]
      exact h3
theorem begins_iff {k p : ByteArray} : beginsB k p = true ↔ ∃ r, k.data.toList = p.data.toList ++ r := by
  unfold beginsB
  rw [Bool.and_eq_true, decide_eq_true_eq, beq_iff_eq]
  constructor
  · rintro ⟨h1, h2⟩
    have h3 := toList_inj h2
    have h4 : (k.extract 0 p.size).data.toList = k.data.toList.take p.size := by
      rw [ext_data k 0 p.size (by omega)]
      simp
    rw [h3] at h4
    exact ⟨k.data.toList.drop p.size, by rw [h4, List.take_append_drop]⟩
  · rintro ⟨r, h⟩
    have h1 : k.size = p.size + r.length := by rw [← bytes_len k, h, List.length_append, bytes_len]
    refine ⟨by omega, ?_⟩
    rw [ByteArray.toList_eq, ByteArray.toList_eq, ext_data k 0 p.size (by omega), h]
    simp [bytes_len]
theorem mailsK_data (u : ByteArray) : (mailsK u).data.toList = 109 :: 47 :: (u.data.toList ++ [47]) := by
  simp [mailsK, ByteArray.data_append]
theorem mail_begins {u : ByteArray} {q : PM} (h : isMail u q = true) : beginsB q.1 (mailsK u) = true := by
  unfold isMail at h
  match hG : splitL 47 q.1.data.toList, h with
  | [a, b, c, d], h =>
    obtain ⟨rfl, rfl⟩ := of_decide_eq_true h
    obtain ⟨hk, _⟩ := key_mail hG
    rw [begins_iff]
    exact ⟨c ++ 47 :: d, by rw [hk, mailsK_data]; show _ = 109 :: 47 :: (b ++ [47]) ++ _; simp⟩
theorem begins_parts {u : ByteArray} (hus : (47 : UInt8) ∉ u.data.toList) {q : PM} (h : beginsB q.1 (mailsK u) = true) : ∃ r, splitL 47 q.1.data.toList = [109] :: u.data.toList :: r := by
  obtain ⟨r, hr⟩ := begins_iff.1 h
  rw [mailsK_data] at hr
  have h1 : q.1.data.toList = [109] ++ 47 :: (u.data.toList ++ 47 :: r) := by rw [hr]; simp
  rw [h1, splitL_seg 47 [109] _ (by decide), splitL_seg 47 _ _ hus]
  exact ⟨_, rfl⟩
theorem filter_le {α : Type} {f g : α → Bool} : ∀ {L : List α}, (∀ x ∈ L, f x = true → g x = true) → (L.filter f).length ≤ (L.filter g).length
  | [], _ => Nat.le_refl _
  | x :: L, h => by
    have ih := filter_le (L := L) fun y hy => h y (List.mem_cons_of_mem _ hy)
    have hx := h x List.mem_cons_self
    cases hf : f x with
    | false =>
      rw [List.filter_cons_of_neg (by simp [hf])]
      cases hg : g x with
      | false => rw [List.filter_cons_of_neg (by simp [hg])]; exact ih
      | true => rw [List.filter_cons_of_pos hg, List.length_cons]; omega
    | true =>
      rw [List.filter_cons_of_pos hf, List.filter_cons_of_pos (hx hf), List.length_cons, List.length_cons]
      omega
theorem foldB_iff {nx : Int} {v : ByteArray} : foldB nx v (metaV v) = true ↔ ∃ p, metaV v = some p ∧ p.1 < nx := by
  cases h : metaV v with
  | none => simp [foldB]
  | some p =>
    show (decide (p.1 < nx) && (v.toList == (metaT p.1 p.2).toList)) = true ↔ _
    rw [← meta_text h, Bool.and_eq_true, decide_eq_true_eq]
    simp
theorem mailN_iff {cnt : Nat} {o : Option Nat} {p : Int × Int} : mailN cnt o (some p) = true ↔ ∃ n, o = some n ∧ 1 ≤ (n : Int) ∧ (n : Int) < p.2 ∧ cnt ≤ 6 := by
  match o with
  | none => simp [mailN]
  | some n =>
    show ((decide (1 ≤ (n : Int)) && decide ((n : Int) ≤ p.2 - 1)) && decide ((cnt : Int) ≤ 6)) = true ↔ _
    simp only [Bool.and_eq_true, decide_eq_true_eq]
    constructor
    · rintro ⟨⟨h1, h2⟩, h3⟩; exact ⟨n, rfl, h1, by omega, by omega⟩
    · rintro ⟨m, h0, h1, h2, h3⟩
      cases h0
      exact ⟨⟨h1, by omega⟩, by omega⟩
theorem mailO_iff {f : FM} {d : List UInt8} {v : ByteArray} : (mailO f d v).isSome = true ↔ ∃ n, decFrom 0 d = some n ∧ d.length = 3 ∧ 1 ≤ v.size ∧ v.size ≤ 86 ∧ 48 ≤ hdV v ∧ hdV v ≤ 51 ∧ 1 ≤ (n : Int) ∧ (n : Int) < f.next := by
  constructor
  · intro h
    obtain ⟨g, hg⟩ := Option.isSome_iff_exists.1 h
    obtain ⟨u, h1, h2, h3, h4, h5, h6, h7, h8, _⟩ := mailO_some hg
    exact ⟨u, h1, h2, h3, h4, h5, h6, h7, h8⟩
  · rintro ⟨n, h1, h2⟩
    unfold mailO
    rw [h1]
    simp only [Option.bind_some]
    rw [if_pos h2]
    rfl
theorem pairE_iff {L : List PM} {v : ByteArray} {b c d : List UInt8} {p : Int × Int} (hm : metaM L (bs b) (bs c) = some p) : pairE L v [b, c, d] = true ↔ (∃ n, decFrom 0 d = some n ∧ d.length = 3 ∧ 1 ≤ v.size ∧ v.size ≤ 86 ∧ 48 ≤ hdV v ∧ hdV v ≤ 51 ∧ 1 ≤ (n : Int) ∧ (n : Int) < p.2) ∧ countM L (bs b) ≤ 6 := by
  show (d.length == 3 && (decide (1 ≤ (v.size : Int)) && decide ((v.size : Int) ≤ 86)) && (decide (48 ≤ headV v) && decide (headV v ≤ 51)) && mailN (countM L (bs b)) (decFrom 0 d) (metaM L (bs b) (bs c))) = true ↔ _
  rw [hm]
  simp only [Bool.and_eq_true, beq_iff_eq, decide_eq_true_eq, mailN_iff]
  constructor
  · rintro ⟨⟨⟨h1, h2, h3⟩, h4, h5⟩, n, k1, k2, k3, k4⟩
    exact ⟨⟨n, k1, h1, by omega, by omega, h4, h5, k2, k3⟩, k4⟩
  · rintro ⟨⟨n, k1, h1, h2, h3, h4, h5, k2, k3⟩, k4⟩
    exact ⟨⟨⟨h1, by omega, by omega⟩, h4, h5⟩, n, k1, k2, k3, k4⟩
theorem mailN_none {cnt : Nat} {o : Option Nat} : mailN cnt o none = false := by
  cases o <;> rfl
theorem pairE_meta {L : List PM} {v : ByteArray} {b c d : List UInt8} (h : pairE L v [b, c, d] = true) : ∃ p, metaM L (bs b) (bs c) = some p := by
  have h9 : (d.length == 3 && (decide (1 ≤ (v.size : Int)) && decide ((v.size : Int) ≤ 86)) && (decide (48 ≤ headV v) && decide (headV v ≤ 51)) && mailN (countM L (bs b)) (decFrom 0 d) (metaM L (bs b) (bs c))) = true := h
  cases hm : metaM L (bs b) (bs c) with
  | some p => exact ⟨p, rfl⟩
  | none =>
    rw [hm, Bool.and_eq_true] at h9
    have h7 := h9.2
    rw [mailN_none] at h7
    cases h7
theorem pairF_iff {L : List PM} {nx : Int} {v : ByteArray} {b c : List UInt8} : pairF L nx v [b, c] = true ↔ shortB (bs c) = true ∧ (getM L (userK (bs b))).isSome = true ∧ foldB nx v (metaM L (bs b) (bs c)) = true := by
  show (shortB (bs c) && (getM L (userK (bs b))).isSome && foldB nx v (metaM L (bs b) (bs c))) = true ↔ _
  rw [Bool.and_eq_true, Bool.and_eq_true, and_assoc]
theorem short_ne {b : List UInt8} (h : shortB (bs b) = true) : b ≠ [] := fun e => by
  rw [e] at h
  exact absurd h (by decide)
theorem owner_slash {q : PM} {u : ByteArray} (h : ownerM q = some u) : (47 : UInt8) ∉ u.data.toList := by
  unfold ownerM at h
  have hno := splitL_no 47 q.1.data.toList
  match hs : splitL 47 q.1.data.toList, h with
  | [a, b], h => obtain ⟨_, rfl⟩ := ite_some h; exact hno b (by rw [hs]; simp)
  | [a, b, c], h => obtain ⟨_, rfl⟩ := ite_some h; exact hno b (by rw [hs]; simp)
  | [a, b, c, d], h => obtain ⟨_, rfl⟩ := ite_some h; exact hno b (by rw [hs]; simp)
theorem folder_not (u c : ByteArray) : folderK u c ≠ vK := fun e => by
  have h := congrArg (fun x : ByteArray => x.data.toList) e
  simp only [folderK_data] at h
  cases h
theorem user_not (u : ByteArray) : userK u ≠ vK := fun e => by
  have h := congrArg (fun x : ByteArray => x.data.toList) e
  simp [userK, ByteArray.data_append] at h
theorem store_eq {L : List PM} {nx : Int} {v0 : ByteArray} (hg : GoodL L) (hv : getM L vK = some v0) (hn : numB v0.data.toList = some nx) (h1 : 1 ≤ nx) (h2 : nx ≤ 10000) : knownB L = L.all (pairB L nx) := by
  have hnm : nx = nextM L := by unfold nextM; rw [hv]; simp [hn]
  have hu := hg.2.2
  have hvm : (vK, v0) ∈ L := (getM_mem hu).1 hv
  rw [Bool.eq_iff_iff, known_iff hnm hu ⟨_, hvm, rfl⟩, List.all_eq_true]
  constructor
  · rintro ⟨K1, K2⟩ q hq
    rcases K2 q hq with e | ⟨u, ho, hz⟩
    · unfold pairB
      rw [if_pos e]
      have h3 : q.2 = v0 := key_one hu (show (vK, q.2) ∈ L by rw [← e]; exact hq) hvm
      rw [h3, (is_of_num hn).1, data_bs]
      simp
    · have hqv : q.1 ≠ vK := fun e => by rw [owner_v e] at ho; cases ho
      rw [pair_iff hqv]
      have hus := owner_slash ho
      obtain ⟨k1, ⟨w, f, k2, k3⟩, k4⟩ := (lay_iff h2 hu hus).1 (K1 u hz)
      have hok := k1 q hq ho
      unfold ownerM at ho
      match hs : splitL 47 q.1.data.toList, ho, hok with
      | [a, b], ho, hok =>
        obtain ⟨e1, e2⟩ := ite_some ho
        have hok : shortB u = true ∧ shortB q.2 = true := hok
        refine ⟨e1, short_ne (by rw [e2]; exact hok.1), ?_⟩
        show (shortB (bs b) && shortB q.2 && (metaM L (bs b) inboxT).isSome) = true
        rw [e2, hok.1, hok.2, (meta_iff hu).2 ⟨w, k2, ((folder_meta h2).1 k3).2.1⟩]
        rfl
      | [a, b, c], ho, hok =>
        obtain ⟨e1, e2⟩ := ite_some ho
        obtain ⟨g, hg'⟩ : ∃ f, folderM nx (bs c) q.2 = some f := hok
        have m := (folder_meta h2).1 hg'
        subst e1
        obtain ⟨hk, _, _⟩ := key_folder hs
        have hmm : metaM L (bs b) (bs c) = metaV q.2 := by
          unfold metaM
          rw [(getM_mem hu).2 (show (folderK (bs b) (bs c), q.2) ∈ L by rw [← hk]; exact hq)]
          rfl
        refine ⟨rfl, pairF_iff.2 ⟨m.1, (get_some hu).2 (by rw [e2]; exact hz), ?_⟩⟩
        rw [hmm, foldB_iff]
        exact ⟨_, m.2.1, m.2.2.1⟩
      | [a, b, c, d], ho, hok =>
        obtain ⟨e1, e2⟩ := ite_some ho
        obtain ⟨w2, f2, n1, n2, n3⟩ : ∃ w f, (folderK u (bs c), w) ∈ L ∧ folderM nx (bs c) w = some f ∧ (mailO f d q.2).isSome = true := hok
        have m := (folder_meta h2).1 n2
        have hmm : metaM L (bs b) (bs c) = some (f2.val, f2.next) := by rw [e2]; exact (meta_iff hu).2 ⟨w2, n1, m.2.1⟩
        refine ⟨e1, (pairE_iff hmm).2 ⟨mailO_iff.1 n3, ?_⟩⟩
        rw [e2]
        refine Nat.le_trans (filter_le ?_) k4
        intro z hz2 hb
        obtain ⟨r, hr⟩ := begins_parts hus hb
        rcases K2 z hz2 with e | ⟨u2, ho2, _⟩
        · rw [e, show splitL 47 vK.data.toList = [[118]] from rfl] at hr
          cases hr
        · unfold ownerM at ho2
          unfold isMail
          rw [hr] at ho2 ⊢
          match r, ho2 with
          | [], ho2 => cases ho2
          | [_], ho2 => cases ho2
          | [_, _], _ => exact decide_eq_true ⟨rfl, rfl⟩
          | _ :: _ :: _ :: _, ho2 => cases ho2
  · intro H
    have HA : ∀ q ∈ L, q.1 ≠ vK → askG L nx q.2 (splitL 47 q.1.data.toList) := fun q hq hv => (pair_iff hv).1 (H q hq)
    have HF : ∀ (u c w : ByteArray), (47 : UInt8) ∉ u.data.toList → (47 : UInt8) ∉ c.data.toList → (folderK u c, w) ∈ L → (∃ f, folderM nx c w = some f) ∧ ∃ z ∈ L, z.1 = userK u := by
      intro u c w hus hcs hm
      have a := HA _ hm (folder_not u c)
      simp only [parts_folder hus hcs] at a
      obtain ⟨a1, a2, a3⟩ := pairF_iff.1 a.2
      have hmm : metaM L u c = metaV w := by
        unfold metaM
        rw [(getM_mem hu).2 hm]
        rfl
      have a3 : foldB nx w (metaM L u c) = true := a3
      rw [hmm, foldB_iff] at a3
      obtain ⟨p, p1, p2⟩ := a3
      exact ⟨⟨⟨c, p.1, p.2, []⟩, (folder_meta h2).2 ⟨a1, p1, p2, rfl⟩⟩, (get_some hu).1 a2⟩
    refine ⟨fun u hz => ?_, fun q hq => ?_⟩
    · obtain ⟨z, hz1, hz2⟩ := hz
      have a := HA z hz1 (by rw [hz2]; exact user_not u)
      rw [hz2, parts_of (c0 := 117) (rest := u.data.toList) (by simp [userK, ByteArray.data_append]) (by decide)] at a
      match hs : splitL 47 u.data.toList, a with
      | [], a => exact absurd hs (splitL_ne 47 _)
      | [b], a =>
        obtain ⟨_, _, a3⟩ := a
        obtain ⟨e1, hus⟩ := split_one hs
        have hbu : bs b = u := by rw [← e1]; exact data_bs u
        rw [← e1] at hus
        have a3 : (shortB (bs b) && shortB z.2 && (metaM L (bs b) inboxT).isSome) = true := a3
        rw [Bool.and_eq_true, Bool.and_eq_true, hbu] at a3
        obtain ⟨⟨a4, a5⟩, a6⟩ := a3
        rw [lay_iff h2 hu hus]
        refine ⟨fun q hq ho => ?_, ?_, ?_⟩
        · have hqv : q.1 ≠ vK := fun e => by rw [owner_v e] at ho; cases ho
          have aq := HA q hq hqv
          unfold ownerM at ho
          match hs2 : splitL 47 q.1.data.toList, ho, aq with
          | [a, b'], ho, aq =>
            obtain ⟨e3, e4⟩ := ite_some ho
            have a7 : (shortB (bs b') && shortB q.2 && (metaM L (bs b') inboxT).isSome) = true := aq.2.2
            rw [Bool.and_eq_true, Bool.and_eq_true] at a7
            exact ⟨a4, a7.1.2⟩
          | [a, b', c], ho, aq =>
            obtain ⟨e3, e4⟩ := ite_some ho
            subst e3
            obtain ⟨hk, hb', hc'⟩ := key_folder hs2
            exact (HF (bs b') (bs c) q.2 hb' hc' (by rw [← hk]; exact hq)).1
          | [a, b', c, d], ho, aq =>
            obtain ⟨e3, e4⟩ := ite_some ho
            subst e3
            obtain ⟨_, hb', hc'⟩ := key_mail hs2
            obtain ⟨p, hp⟩ := pairE_meta aq.2
            obtain ⟨w, w1, w2⟩ := (meta_iff hu).1 hp
            obtain ⟨f, hf⟩ := (HF (bs b') (bs c) w hb' hc' w1).1
            have m := (folder_meta h2).1 hf
            rw [w2] at m
            have hpn : p.2 = f.next := by have := m.2.1; cases this; rfl
            obtain ⟨n, n1⟩ := ((pairE_iff hp).1 aq.2).1
            rw [hpn] at n1
            exact ⟨w, f, by rw [← e4]; exact w1, hf, mailO_iff.2 ⟨n, n1⟩⟩
        · obtain ⟨p, hp⟩ := Option.isSome_iff_exists.1 a6
          obtain ⟨w, w1, w2⟩ := (meta_iff hu).1 hp
          obtain ⟨f, hf⟩ := (HF u inboxT w hus (by decide) w1).1
          exact ⟨w, f, w1, hf⟩
        · cases hl : L.filter (isMail u) with
          | nil => simp
          | cons q r =>
            have hq : q ∈ L.filter (isMail u) := by rw [hl]; exact List.mem_cons_self
            rw [List.mem_filter] at hq
            have ho := mail_owner hq.2
            have hqv : q.1 ≠ vK := fun e => by rw [owner_v e] at ho; cases ho
            have aq := HA q hq.1 hqv
            have hmq := hq.2
            unfold isMail at hmq
            rw [← hl]
            refine Nat.le_trans (filter_le fun x _ => mail_begins) ?_
            match hs2 : splitL 47 q.1.data.toList, hmq, aq with
            | [a, b', c, d], hmq, aq =>
              obtain ⟨_, e4⟩ := of_decide_eq_true hmq
              obtain ⟨p, hp⟩ := pairE_meta aq.2
              have h9 := ((pairE_iff hp).1 aq.2).2
              rw [e4] at h9
              exact h9
      | b :: c :: [], a => exact absurd a.1 (by decide)
      | b :: c :: d :: [], a => exact absurd a.1 (by decide)
      | _ :: _ :: _ :: _ :: _, a => exact a.elim
    · by_cases e : q.1 = vK
      · exact .inl e
      · right
        have aq := HA q hq e
        match hs : splitL 47 q.1.data.toList, aq with
        | [a, b], aq =>
          obtain ⟨e1, _, _⟩ := aq
          subst e1
          exact ⟨bs b, by unfold ownerM; rw [hs]; rfl, q, hq, (key_user hs).1⟩
        | [a, b, c], aq =>
          obtain ⟨e1, e2⟩ := aq
          subst e1
          exact ⟨bs b, by unfold ownerM; rw [hs]; rfl, (get_some hu).1 (pairF_iff.1 e2).2.1⟩
        | [a, b, c, d], aq =>
          obtain ⟨e1, e2⟩ := aq
          subst e1
          obtain ⟨_, hb', hc'⟩ := key_mail hs
          obtain ⟨p, hp⟩ := pairE_meta e2
          obtain ⟨w, w1, _⟩ := (meta_iff hu).1 hp
          exact ⟨bs b, by unfold ownerM; rw [hs]; rfl, (HF (bs b) (bs c) w hb' hc' w1).2⟩
theorem impl_store (L : List PM) : implB L = storeB L := by
  unfold implB storeB
  cases hp : pairsB (fK L) (fV L) L.length with
  | false => rfl
  | true =>
    have hg := good_of hp
    rw [Bool.true_and, Bool.true_and]
    cases hv : getM L vK with
    | none =>
      have h1 : nextM L = 0 := by unfold nextM; rw [hv]; rfl
      rw [h1]
      rfl
    | some v0 =>
      cases hn : numB v0.data.toList with
      | none =>
        have h1 : nextM L = 0 := by unfold nextM; rw [hv]; simp [hn]
        rw [h1, Option.getD_some, hn]
        rfl
      | some nx =>
        have h1 : nextM L = nx := by unfold nextM; rw [hv]; simp [hn]
        rw [h1, Option.getD_some, hn]
        show ((decide (1 ≤ nx) && decide (nx ≤ 10000)) && knownB L) = _
        by_cases h3 : 1 ≤ nx ∧ nx ≤ 10000
        · rw [store_eq hg hv hn h3.1 h3.2]
        · have h4 : (decide (1 ≤ nx) && decide (nx ≤ 10000)) = false := by
            rw [Bool.eq_false_iff]
            simp only [ne_eq, Bool.and_eq_true, decide_eq_true_eq]
            exact h3
          rw [h4]
          rfl
end Go.Proofs.YthgbclipknfmjaaGreatDoor
