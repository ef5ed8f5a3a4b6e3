/-
  Eqd Ask7 Usp in one. By an AI agent.
-/
import Derived.Test.YtddnecljdecamaaGreatDoorQ15
namespace Go.Proofs.YtddnecljdecamaaGreatDoor
open Go.ChangeShapes Go.WideShapes Go.ChangeAt Go.RowKit Go.Deep Go.Lib
set_option linter.unusedVariables false
set_option linter.unusedSimpArgs false
set_option maxRecDepth 100000

theorem get_some {L : List PM} (hu : UpL L) {k : ByteArray} : (getM L k).isSome = true ↔ ∃ q ∈ L, q.1 = k := by
  constructor
  · intro h
    obtain ⟨v, hv⟩ := Option.isSome_iff_exists.1 h
    exact ⟨(k, v), (getM_mem hu).1 hv, rfl⟩
  · rintro ⟨q, hq, rfl⟩
    rw [(getM_mem hu).2 (show (q.1, q.2) ∈ L from hq)]
    rfl
theorem meta_iff {L : List PM} (hu : UpL L) {u f : ByteArray} {p : Int × Int} : metaM L u f = some p ↔ ∃ w, (folderK u f, w) ∈ L ∧ metaV w = some p := by
  unfold metaM
  rw [Option.bind_eq_some_iff]
  constructor
  · rintro ⟨w, h1, h2⟩; exact ⟨w, (getM_mem hu).1 h1, h2⟩
  · rintro ⟨w, h1, h2⟩; exact ⟨w, (getM_mem hu).2 h1, h2⟩
/-- A key of two parts or more, its first a lone byte. -/
theorem kind_of {k : ByteArray} {c0 : UInt8} {rest : List UInt8} (h : k.data.toList = c0 :: 47 :: rest) (hr : rest ≠ []) : (decide (3 ≤ k.size) && slashB k) = true ∧ k.data.toList.headD 0 = c0 ∧ partsK k = splitL 47 rest ∧ k ≠ vK := by
  have h1 : k.size = rest.length + 2 := by rw [← bytes_len, h]; rfl
  have h2 : 1 ≤ rest.length := by cases rest with
    | nil => exact absurd rfl hr
    | cons => simp
  refine ⟨?_, by rw [h]; rfl, by unfold partsK; rw [h]; rfl, fun e => ?_⟩
  · rw [decide_eq_true (by omega)]
    unfold slashB
    rw [h]
    rfl
  · rw [e] at h
    cases h
theorem kind_back {k : ByteArray} (h : (decide (3 ≤ k.size) && slashB k) = true) : ∃ c0 rest, k.data.toList = c0 :: 47 :: rest ∧ rest ≠ [] := by
  rw [Bool.and_eq_true, decide_eq_true_eq, ← bytes_len] at h
  unfold slashB at h
  obtain ⟨h1, h2⟩ := h
  match hk : k.data.toList, h1, h2 with
  | a :: b :: c :: r, _, h2 =>
    have h3 : b = 47 := by simpa using h2
    exact ⟨a, c :: r, by rw [h3], by simp⟩
theorem parts_of {k : ByteArray} {c0 : UInt8} {rest : List UInt8} (h : k.data.toList = c0 :: 47 :: rest) (hc : c0 ≠ 47) : splitL 47 k.data.toList = [c0] :: splitL 47 rest := by
  rw [h]
  exact splitL_seg 47 [c0] rest (by simp; exact fun h9 => hc h9.symm)
/-- What the specification asks of a pair, by the key's parts. -/
def askG (L : List PM) (nx : Int) (v : ByteArray) : List (List UInt8) → Prop
  | [a, b] => a = [117] ∧ b ≠ [] ∧ pairU L v [b] = true
  | [a, b, c] => a = [102] ∧ pairF L nx v [b, c] = true
  | [a, b, c, d] => a = [109] ∧ pairE L v [b, c, d] = true
  | _ => False
theorem pair_iff {L : List PM} {nx : Int} {q : PM} (hq : q.1 ≠ vK) : pairB L nx q = true ↔ askG L nx q.2 (splitL 47 q.1.data.toList) := by
  unfold pairB
  rw [if_neg hq, Bool.and_eq_true]
  constructor
  · rintro ⟨h1, h2⟩
    obtain ⟨c0, rest, hk, hr⟩ := kind_back h1
    obtain ⟨_, k2, k3, _⟩ := kind_of hk hr
    unfold kindB at h2
    rw [k2, k3] at h2
    by_cases e1 : c0 = 117
    · rw [if_pos e1] at h2
      rw [parts_of hk (by rw [e1]; decide)]
      match hs : splitL 47 rest, h2 with
      | [b], h2 =>
        refine ⟨by rw [e1], ?_, h2⟩
        rw [← (split_one hs).1]
        exact hr
    rw [if_neg e1] at h2
    by_cases e2 : c0 = 102
    · rw [if_pos e2] at h2
      rw [parts_of hk (by rw [e2]; decide)]
      match hs : splitL 47 rest, h2 with
      | [b, c], h2 => exact ⟨by rw [e2], h2⟩
    rw [if_neg e2] at h2
    by_cases e3 : c0 = 109
    · rw [if_pos e3] at h2
      rw [parts_of hk (by rw [e3]; decide)]
      match hs : splitL 47 rest, h2 with
      | [b, c, d], h2 => exact ⟨by rw [e3], h2⟩
    rw [if_neg e3] at h2
    cases h2
  · intro h
    match hs : splitL 47 q.1.data.toList, h with
    | [a, b], ⟨h1, h2, h3⟩ =>
      subst h1
      obtain ⟨rest, k1, k2, _⟩ := split_back hs
      obtain ⟨k3, _⟩ := split_one k2
      obtain ⟨m1, m2, m3, _⟩ := kind_of (c0 := 117) k1 (by rw [k3]; exact h2)
      refine ⟨m1, ?_⟩
      unfold kindB
      rw [m2, m3, if_pos rfl, k2]
      exact h3
    | [a, b, c], ⟨h1, h3⟩ =>
      subst h1
      obtain ⟨rest, k1, k2, _⟩ := split_back hs
      obtain ⟨m1, m2, m3, _⟩ := kind_of (c0 := 102) k1 (fun e => by rw [e] at k2; cases k2)
      refine ⟨m1, ?_⟩
      unfold kindB
      rw [m2, m3, if_neg (by decide), if_pos rfl, k2]
      exact h3
    | [a, b, c, d], ⟨h1, h3⟩ =>
      subst h1
      obtain ⟨rest, k1, k2, _⟩ := split_back hs
      obtain ⟨m1, m2, m3, _⟩ := kind_of (c0 := 109) k1 (fun e => by rw [e] at k2; cases k2)
      refine ⟨m1, ?_⟩
      unfold kindB
      rw [m2, m3, if_neg (by decide), if_neg (by decide), if_pos rfl, k2]
      exact h3
theorem begins_iff {k p : ByteArray} : beginsB k p = true ↔ ∃ r, k.data.toList = p.data.toList ++ r := by
  unfold beginsB
  rw [Bool.and_eq_true, decide_eq_true_eq, beq_iff_eq]
  constructor
  · rintro ⟨h1, h2⟩
    have h3 := toList_inj h2
    have h4 : (k.extract 0 p.size).data.toList = k.data.toList.take p.size := by
      rw [ext_data k 0 p.size (by omega)]
      simp
    rw [h3] at h4
    exact ⟨k.data.toList.drop p.size, by rw [h4, List.take_append_drop]⟩
  · rintro ⟨r, h⟩
    have h1 : k.size = p.size + r.length := by rw [← bytes_len k, h, List.length_append, bytes_len]
    refine ⟨by omega, ?_⟩
    rw [ByteArray.toList_eq, ByteArray.toList_eq, ext_data k 0 p.size (by omega), h]
    simp [bytes_len]
theorem mailsK_data (u : ByteArray) : (mailsK u).data.toList = 109 :: 47 :: (u.data.toList ++ [47]) := by
  simp [mailsK, ByteArray.data_append]
theorem mail_begins {u : ByteArray} {q : PM} (h : isMail u q = true) : beginsB q.1 (mailsK u) = true := by
  unfold isMail at h
  match hG : splitL 47 q.1.data.toList, h with
  | [a, b, c, d], h =>
    obtain ⟨rfl, rfl⟩ := of_decide_eq_true h
    obtain ⟨hk, _⟩ := key_mail hG
    rw [begins_iff]
    exact ⟨c ++ 47 :: d, by rw [hk, mailsK_data]; show _ = 109 :: 47 :: (b ++ [47]) ++ _; simp⟩
theorem begins_parts {u : ByteArray} (hus : (47 : UInt8) ∉ u.data.toList) {q : PM} (h : beginsB q.1 (mailsK u) = true) : ∃ r, splitL 47 q.1.data.toList = [109] :: u.data.toList :: r := by
  obtain ⟨r, hr⟩ := begins_iff.1 h
  rw [mailsK_data] at hr
  have h1 : q.1.data.toList = [109] ++ 47 :: (u.data.toList ++ 47 :: r) := by rw [hr]; simp
  rw [h1, splitL_seg 47 [109] _ (by decide), splitL_seg 47 _ _ hus]
  exact ⟨_, rfl⟩
theorem filter_le {α : Type} {f g : α → Bool} : ∀ {L : List α}, (∀ x ∈ L, f x = true → g x = true) → (L.filter f).length ≤ (L.filter g).length
  | [], _ => Nat.le_refl _
  | x :: L, h => by
    have ih := filter_le (L := L) fun y hy => h y (List.mem_cons_of_mem _ hy)
    have hx := h x List.mem_cons_self
    cases hf : f x with
    | false =>
      rw [List.filter_cons_of_neg (by simp [hf])]
      cases hg : g x with
      | false => rw [List.filter_cons_of_neg (by simp [hg])]; exact ih
      | true => rw [List.filter_cons_of_pos hg, List.length_cons]; omega
    | true =>
      rw [List.filter_cons_of_pos hf, List.filter_cons_of_pos (hx hf), List.length_cons, List.length_cons]
      omega
theorem foldB_iff {nx : Int} {v : ByteArray} : foldB nx v (metaV v) = true ↔ ∃ p, metaV v = some p ∧ p.1 < nx := by
  cases h : metaV v with
  | none => simp [foldB]
  | some p =>
    show (decide (p.1 < nx) && (v.toList == (metaT p.1 p.2).toList)) = true ↔ _
    rw [← meta_text h, Bool.and_eq_true, decide_eq_true_eq]
    simp
theorem mailN_iff {cnt : Nat} {o : Option Nat} {p : Int × Int} : mailN cnt o (some p) = true ↔ ∃ n, o = some n ∧ 1 ≤ (n : Int) ∧ (n : Int) < p.2 ∧ cnt ≤ 6 := by
  match o with
  | none => simp [mailN]
  | some n =>
    show ((decide (1 ≤ (n : Int)) && decide ((n : Int) ≤ p.2 - 1)) && decide ((cnt : Int) ≤ 6)) = true ↔ _
    simp only [Bool.and_eq_true, decide_eq_true_eq]
    constructor
    · rintro ⟨⟨h1, h2⟩, h3⟩; exact ⟨n, rfl, h1, by omega, by omega⟩
    · rintro ⟨m, h0, h1, h2, h3⟩
      cases h0
      exact ⟨⟨h1, by omega⟩, by omega⟩
theorem mailO_iff {f : FM} {d : List UInt8} {v : ByteArray} : (mailO f d v).isSome = true ↔ ∃ n, decFrom 0 d = some n ∧ d.length = 3 ∧ 1 ≤ v.size ∧ v.size ≤ 86 ∧ 48 ≤ hdV v ∧ hdV v ≤ 51 ∧ 1 ≤ (n : Int) ∧ (n : Int) < f.next := by
  constructor
  · intro h
    obtain ⟨g, hg⟩ := Option.isSome_iff_exists.1 h
    obtain ⟨u, h1, h2, h3, h4, h5, h6, h7, h8, _⟩ := mailO_some hg
    exact ⟨u, h1, h2, h3, h4, h5, h6, h7, h8⟩
  · rintro ⟨n, h1, h2⟩
    unfold mailO
    rw [h1]
    simp only [Option.bind_some]
    rw [if_pos h2]
    rfl
theorem pairE_iff {L : List PM} {v : ByteArray} {b c d : List UInt8} {p : Int × Int} (hm : metaM L (bs b) (bs c) = some p) : pairE L v [b, c, d] = true ↔ (∃ n, decFrom 0 d = some n ∧ d.length = 3 ∧ 1 ≤ v.size ∧ v.size ≤ 86 ∧ 48 ≤ hdV v ∧ hdV v ≤ 51 ∧ 1 ≤ (n : Int) ∧ (n : Int) < p.2) ∧ countM L (bs b) ≤ 6 := by
  show (d.length == 3 && (decide (1 ≤ (v.size : Int)) && decide ((v.size : Int) ≤ 86)) && (decide (48 ≤ headV v) && decide (headV v ≤ 51)) && mailN (countM L (bs b)) (decFrom 0 d) (metaM L (bs b) (bs c))) = true ↔ _
  rw [hm]
  simp only [Bool.and_eq_true, beq_iff_eq, decide_eq_true_eq, mailN_iff]
  constructor
  · rintro ⟨⟨⟨h1, h2, h3⟩, h4, h5⟩, n, k1, k2, k3, k4⟩
    exact ⟨⟨n, k1, h1, by omega, by omega, h4, h5, k2, k3⟩, k4⟩
  · rintro ⟨⟨n, k1, h1, h2, h3, h4, h5, k2, k3⟩, k4⟩
    exact ⟨⟨⟨h1, by omega, by omega⟩, h4, h5⟩, n, k1, k2, k3, k4⟩
theorem mailN_none {cnt : Nat} {o : Option Nat} : mailN cnt o none = false := by
  cases o <;> rfl
theorem pairE_meta {L : List PM} {v : ByteArray} {b c d : List UInt8} (h : pairE L v [b, c, d] = true) : ∃ p, metaM L (bs b) (bs c) = some p := by
  have h9 : (d.length == 3 && (decide (1 ≤ (v.size : Int)) && decide ((v.size : Int) ≤ 86)) && (decide (48 ≤ headV v) && decide (headV v ≤ 51)) && mailN (countM L (bs b)) (decFrom 0 d) (metaM L (bs b) (bs c))) = true := h
  cases hm : metaM L (bs b) (bs c) with
  | some p => exact ⟨p, rfl⟩
  | none =>
    rw [hm, Bool.and_eq_true] at h9
    have h7 := h9.2
    rw [mailN_none] at h7
    cases h7
theorem pairF_iff {L : List PM} {nx : Int} {v : ByteArray} {b c : List UInt8} : pairF L nx v [b, c] = true ↔ shortB (bs c) = true ∧ (getM L (userK (bs b))).isSome = true ∧ foldB nx v (metaM L (bs b) (bs c)) = true := by
  show (shortB (bs c) && (getM L (userK (bs b))).isSome && foldB nx v (metaM L (bs b) (bs c))) = true ↔ _
  rw [Bool.and_eq_true, Bool.and_eq_true, and_assoc]
theorem short_ne {b : List UInt8} (h : shortB (bs b) = true) : b ≠ [] := fun e => by
  rw [e] at h
  exact absurd h (by decide)
theorem owner_slash {q : PM} {u : ByteArray} (h : ownerM q = some u) : (47 : UInt8) ∉ u.data.toList := by
  unfold ownerM at h
  have hno := splitL_no 47 q.1.data.toList
  match hs : splitL 47 q.1.data.toList, h with
  | [a, b], h => obtain ⟨_, rfl⟩ := ite_some h; exact hno b (by rw [hs]; simp)
  | [a, b, c], h => obtain ⟨_, rfl⟩ := ite_some h; exact hno b (by rw [hs]; simp)
  | [a, b, c, d], h => obtain ⟨_, rfl⟩ := ite_some h; exact hno b (by rw [hs]; simp)
theorem folder_not (u c : ByteArray) : folderK u c ≠ vK := fun e => by
  have h := congrArg (fun x : ByteArray => x.data.toList) e
  simp only [folderK_data] at h
  cases h
theorem user_not (u : ByteArray) : userK u ≠ vK := fun e => by
  have h := congrArg (fun x : ByteArray => x.data.toList) e
  simp [userK, ByteArray.data_append] at h
theorem store_eq {L : List PM} {nx : Int} {v0 : ByteArray} (hg : GoodL L) (hv : getM L vK = some v0) (hn : numB v0.data.toList = some nx) (h1 : 1 ≤ nx) (h2 : nx ≤ 10000) : knownB L = L.all (pairB L nx) := by
  have hnm : nx = nextM L := by unfold nextM; rw [hv]; simp [hn]
  have hu := hg.2.2
  have hvm : (vK, v0) ∈ L := (getM_mem hu).1 hv
  rw [Bool.eq_iff_iff, known_iff hnm hu ⟨_, hvm, rfl⟩, List.all_eq_true]
  constructor
  · rintro ⟨K1, K2⟩ q hq
    rcases K2 q hq with e | ⟨u, ho, hz⟩
    · unfold pairB
      rw [if_pos e]
      have h3 : q.2 = v0 := key_one hu (show (vK, q.2) ∈ L by rw [← e]; exact hq) hvm
      rw [h3, (is_of_num hn).1, data_bs]
      simp
    · have hqv : q.1 ≠ vK := fun e => by rw [owner_v e] at ho; cases ho
      rw [pair_iff hqv]
      have hus := owner_slash ho
      obtain ⟨k1, ⟨w, f, k2, k3⟩, k4⟩ := (lay_iff h2 hu hus).1 (K1 u hz)
      have hok := k1 q hq ho
      unfold ownerM at ho
      match hs : splitL 47 q.1.data.toList, ho, hok with
      | [a, b], ho, hok =>
        obtain ⟨e1, e2⟩ := ite_some ho
        have hok : shortB u = true ∧ shortB q.2 = true := hok
        refine ⟨e1, short_ne (by rw [e2]; exact hok.1), ?_⟩
        show (shortB (bs b) && shortB q.2 && (metaM L (bs b) inboxT).isSome) = true
        rw [e2, hok.1, hok.2, (meta_iff hu).2 ⟨w, k2, ((folder_meta h2).1 k3).2.1⟩]
        rfl
      | [a, b, c], ho, hok =>
        obtain ⟨e1, e2⟩ := ite_some ho
        obtain ⟨g, hg'⟩ : ∃ f, folderM nx (bs c) q.2 = some f := hok
        have m := (folder_meta h2).1 hg'
        subst e1
        obtain ⟨hk, _, _⟩ := key_folder hs
        have hmm : metaM L (bs b) (bs c) = metaV q.2 := by
          unfold metaM
          rw [(getM_mem hu).2 (show (folderK (bs b) (bs c), q.2) ∈ L by rw [← hk]; exact hq)]
          rfl
        refine ⟨rfl, pairF_iff.2 ⟨m.1, (get_some hu).2 (by rw [e2]; exact hz), ?_⟩⟩
        rw [hmm, foldB_iff]
        exact ⟨_, m.2.1, m.2.2.1⟩
      | [a, b, c, d], ho, hok =>
        obtain ⟨e1, e2⟩ := ite_some ho
        obtain ⟨w2, f2, n1, n2, n3⟩ : ∃ w f, (folderK u (bs c), w) ∈ L ∧ folderM nx (bs c) w = some f ∧ (mailO f d q.2).isSome = true := hok
        have m := (folder_meta h2).1 n2
        have hmm : metaM L (bs b) (bs c) = some (f2.val, f2.next) := by rw [e2]; exact (meta_iff hu).2 ⟨w2, n1, m.2.1⟩
        refine ⟨e1, (pairE_iff hmm).2 ⟨mailO_iff.1 n3, ?_⟩⟩
        rw [e2]
        refine Nat.le_trans (filter_le ?_) k4
        intro z hz2 hb
        obtain ⟨r, hr⟩ := begins_parts hus hb
        rcases K2 z hz2 with e | ⟨u2, ho2, _⟩
        · rw [e, show splitL 47 vK.data.toList = [[118]] from rfl] at hr
          cases hr
        · unfold ownerM at ho2
          unfold isMail
          rw [hr] at ho2 ⊢
          match r, ho2 with
          | [], ho2 => cases ho2
          | [_], ho2 => cases ho2
          | [_, _], _ => exact decide_eq_true ⟨rfl, rfl⟩
          | _ :: _ :: _ :: _, ho2 => cases ho2
  · intro H
    have HA : ∀ q ∈ L, q.1 ≠ vK → askG L nx q.2 (splitL 47 q.1.data.toList) := fun q hq hv => (pair_iff hv).1 (H q hq)
    have HF : ∀ (u c w : ByteArray), (47 : UInt8) ∉ u.data.toList → (47 : UInt8) ∉ c.data.toList → (folderK u c, w) ∈ L → (∃ f, folderM nx c w = some f) ∧ ∃ z ∈ L, z.1 = userK u := by
      intro u c w hus hcs hm
      have a := HA _ hm (folder_not u c)
      simp only [parts_folder hus hcs] at a
      obtain ⟨a1, a2, a3⟩ := pairF_iff.1 a.2
      have hmm : metaM L u c = metaV w := by
        unfold metaM
        rw [(getM_mem hu).2 hm]
        rfl
      have a3 : foldB nx w (metaM L u c) = true := a3
      rw [hmm, foldB_iff] at a3
      obtain ⟨p, p1, p2⟩ := a3
      exact ⟨⟨⟨c, p.1, p.2, []⟩, (folder_meta h2).2 ⟨a1, p1, p2, rfl⟩⟩, (get_some hu).1 a2⟩
    refine ⟨fun u hz => ?_, fun q hq => ?_⟩
    · obtain ⟨z, hz1, hz2⟩ := hz
      have a := HA z hz1 (by rw [hz2]; exact user_not u)
      rw [hz2, parts_of (c0 := 117) (rest := u.data.toList) (by simp [userK, ByteArray.data_append]) (by decide)] at a
      match hs : splitL 47 u.data.toList, a with
      | [], a => exact absurd hs (splitL_ne 47 _)
      | [b], a =>
        obtain ⟨_, _, a3⟩ := a
        obtain ⟨e1, hus⟩ := split_one hs
        have hbu : bs b = u := by rw [← e1]; exact data_bs u
        rw [← e1] at hus
        have a3 : (shortB (bs b) && shortB z.2 && (metaM L (bs b) inboxT).isSome) = true := a3
        rw [Bool.and_eq_true, Bool.and_eq_true, hbu] at a3
        obtain ⟨⟨a4, a5⟩, a6⟩ := a3
        rw [lay_iff h2 hu hus]
        refine ⟨fun q hq ho => ?_, ?_, ?_⟩
        · have hqv : q.1 ≠ vK := fun e => by rw [owner_v e] at ho; cases ho
          have aq := HA q hq hqv
          unfold ownerM at ho
          match hs2 : splitL 47 q.1.data.toList, ho, aq with
          | [a, b'], ho, aq =>
            obtain ⟨e3, e4⟩ := ite_some ho
            have a7 : (shortB (bs b') && shortB q.2 && (metaM L (bs b') inboxT).isSome) = true := aq.2.2
            rw [Bool.and_eq_true, Bool.and_eq_true] at a7
            exact ⟨a4, a7.1.2⟩
          | [a, b', c], ho, aq =>
            obtain ⟨e3, e4⟩ := ite_some ho
            subst e3
            obtain ⟨hk, hb', hc'⟩ := key_folder hs2
            exact (HF (bs b') (bs c) q.2 hb' hc' (by rw [← hk]; exact hq)).1
          | [a, b', c, d], ho, aq =>
            obtain ⟨e3, e4⟩ := ite_some ho
            subst e3
            obtain ⟨_, hb', hc'⟩ := key_mail hs2
            obtain ⟨p, hp⟩ := pairE_meta aq.2
            obtain ⟨w, w1, w2⟩ := (meta_iff hu).1 hp
            obtain ⟨f, hf⟩ := (HF (bs b') (bs c) w hb' hc' w1).1
            have m := (folder_meta h2).1 hf
            rw [w2] at m
            have hpn : p.2 = f.next := by have := m.2.1; cases this; rfl
            obtain ⟨n, n1⟩ := ((pairE_iff hp).1 aq.2).1
            rw [hpn] at n1
            exact ⟨w, f, by rw [← e4]; exact w1, hf, mailO_iff.2 ⟨n, n1⟩⟩
        · obtain ⟨p, hp⟩ := Option.isSome_iff_exists.1 a6
          obtain ⟨w, w1, w2⟩ := (meta_iff hu).1 hp
          obtain ⟨f, hf⟩ := (HF u inboxT w hus (by decide) w1).1
          exact ⟨w, f, w1, hf⟩
        · cases hl : L.filter (isMail u) with
          | nil => simp
          | cons q r =>
            have hq : q ∈ L.filter (isMail u) := by rw [hl]; exact List.mem_cons_self
            rw [List.mem_filter] at hq
            have ho := mail_owner hq.2
            have hqv : q.1 ≠ vK := fun e => by rw [owner_v e] at ho; cases ho
            have aq := HA q hq.1 hqv
            have hmq := hq.2
            unfold isMail at hmq
            rw [← hl]
            refine Nat.le_trans (filter_le fun x _ => mail_begins) ?_
            match hs2 : splitL 47 q.1.data.toList, hmq, aq with
            | [a, b', c, d], hmq, aq =>
              obtain ⟨_, e4⟩ := of_decide_eq_true hmq
              obtain ⟨p, hp⟩ := pairE_meta aq.2
              have h9 := ((pairE_iff hp).1 aq.2).2
              rw [e4] at h9
              exact h9
      | b :: c :: [], a => exact absurd a.1 (by decide)
      | b :: c :: d :: [], a => exact absurd a.1 (by decide)
      | _ :: _ :: _ :: _ :: _, a => exact a.elim
    · by_cases e : q.1 = vK
      · exact .inl e
      · right
        have aq := HA q hq e
        match hs : splitL 47 q.1.data.toList, aq with
        | [a, b], aq =>
          obtain ⟨e1, _, _⟩ := aq
          subst e1
          exact ⟨bs b, by unfold ownerM; rw [hs]; rfl, q, hq, (key_user hs).1⟩
        | [a, b, c], aq =>
          obtain ⟨e1, e2⟩ := aq
          subst e1
          exact ⟨bs b, by unfold ownerM; rw [hs]; rfl, (get_some hu).1 (pairF_iff.1 e2).2.1⟩
        | [a, b, c, d], aq =>
          obtain ⟨e1, e2⟩ := aq
          subst e1
          obtain ⟨_, hb', hc'⟩ := key_mail hs
          obtain ⟨p, hp⟩ := pairE_meta e2
          obtain ⟨w, w1, _⟩ := (meta_iff hu).1 hp
          exact ⟨bs b, by unfold ownerM; rw [hs]; rfl, (HF (bs b) (bs c) w hb' hc' w1).2⟩
theorem impl_store (L : List PM) : implB L = storeB L := by
  unfold implB storeB
  cases hp : pairsB (fK L) (fV L) L.length with
  | false => rfl
  | true =>
    have hg := good_of hp
    rw [Bool.true_and, Bool.true_and]
    cases hv : getM L vK with
    | none =>
      have h1 : nextM L = 0 := by unfold nextM; rw [hv]; rfl
      rw [h1]
      rfl
    | some v0 =>
      cases hn : numB v0.data.toList with
      | none =>
        have h1 : nextM L = 0 := by unfold nextM; rw [hv]; simp [hn]
        rw [h1, Option.getD_some, hn]
        rfl
      | some nx =>
        have h1 : nextM L = nx := by unfold nextM; rw [hv]; simp [hn]
        rw [h1, Option.getD_some, hn]
        show ((decide (1 ≤ nx) && decide (nx ≤ 10000)) && knownB L) = _
        by_cases h3 : 1 ≤ nx ∧ nx ≤ 10000
        · rw [store_eq hg hv hn h3.1 h3.2]
        · have h4 : (decide (1 ≤ nx) && decide (nx ≤ 10000)) = false := by
            rw [Bool.eq_false_iff]
            simp only [ne_eq, Bool.and_eq_true, decide_eq_true_eq]
            exact h3
          rw [h4]
          rfl
end Go.Proofs.YtddnecljdecamaaGreatDoor
namespace Go.Proofs.YtddnecljdecamaaGreatDoor
open Go.ChangeShapes Go.WideShapes Go.ChangeAt Go.RowKit Go.Deep Go.Lib
set_option linter.unusedVariables false
set_option linter.unusedSimpArgs false
set_option maxRecDepth 100000

theorem all_dx {α : Type} (d : α) (f : α → Bool) (L : List α) (k : Nat) (hk : k < L.length) : (L.drop k).all f = (f (L.getD k d) && (L.drop (k + 1)).all f) := by
  rw [List.drop_eq_getElem_cons hk, List.getD_eq_getElem?_getD, List.getElem?_eq_getElem hk]
  rfl
theorem all_de {α : Type} (f : α → Bool) (L : List α) (k : Nat) (hk : L.length ≤ k) : (L.drop k).all f = true := by
  rw [List.drop_of_length_le hk]
  rfl
abbrev smallT (s : ByteArray) : Bool := decide (s.size ≤ 65536)
def askM (L : List PM) (Ns : List ByteArray) : Int := if 4096 < L.length ∨ Ns.all smallT = false then 2 else if storeB L = false then 1 else if Ns.all shortB = false then 17 else 0
theorem ask_small {L : List PM} {Ns : List ByteArray} (h : ¬ 4096 < L.length) : askM L Ns = if Ns.all smallT = false then 2 else if storeB L = false then 1 else if Ns.all shortB = false then 17 else 0 := by
  unfold askM
  by_cases h9 : Ns.all smallT = false
  · rw [if_pos (.inr h9), if_pos h9]
  · have h8 : ¬ (4096 < L.length ∨ Ns.all smallT = false) := fun h7 => h7.elim h h9
    rw [if_neg h8, if_neg h9]

set_option maxHeartbeats 1000000 in
theorem allShortI (b : Option Addr) (m d : Nat) (Ns : List ByteArray) (w : World) (hN : Ns.length = m) (hm : m ≤ 100) (hz : ∀ s ∈ Ns, s.size ≤ 1048576) (h2 : Src w b (cellsS Ns)) (nb : Bool) (HNB : Hid (Ns.all shortB = nb)) :
    Calls Tryz.prog 87 #[.slice b m d] w fun e w' => e = .returned (.bool nb) ∧ Below w.heap.size w w' := by
  have HN : Hid (Ns.length = m) := hN
  have HT : Hid (Src w b (cellsS Ns)) := h2
  have HY : Hid (∀ s ∈ Ns, s.size ≤ 1048576) := hz
  have HB0 : Hid ((Ns.drop 0).all shortB = nb) := HNB.out
  clear hN h2 hz HNB
  go_enter Tryz.func87, Tryz.ntmps87
  go_wp2_with fail
  go_loopw [7] (fun iv wr => ∃ j : Nat, j ≤ m ∧ iv = .int .i64 (j : Int) ∧ Hid ((Ns.drop j).all shortB = nb) ∧ Hid (Below w.heap.size w wr)) (fun i _ => m - (RowKit.intOf i).toNat)
  case atStart => exact ⟨0, by omega, rfl, HB0.out, Below.refl _ _⟩
  case round =>
    obtain ⟨j, hj, rfl, hall, hbr⟩ := hrel
    by_cases hlt : j < m
    · have hltj : (j : Int) < (m : Int) := by omega
      have hkN : j < Ns.length := by rw [HN.out]; exact hlt
      obtain ⟨b', o', t, rfl, c1, hy⟩ := srcS (HT.out.below hbr.out) hkN
      have hts : t.size ≤ maxLen := by
        have := HY.out t (by rw [← hy.out]; exact mem_getD Ns e0 j hkN)
        unfold maxLen
        omega
      have HA := hall.out
      rw [all_dx e0 shortB Ns j hkN, hy.out] at HA
      obtain ⟨st, hst⟩ : ∃ x, shortB t = x := ⟨_, rfl⟩
      rw [hst] at HA
      have HA3 : Hid ((st && (Ns.drop (j + 1)).all shortB) = nb) := HA
      clear HA hall
      go_wp2_with fail
      refine (shortIs st t _ hst hts).mono ?_
      rintro e w5 ⟨rfl, hw5⟩
      obtain rfl := hw5
      cases st with
      | false =>
        obtain rfl : false = nb := HA3.out
        go_wp2_with fail
        go_ret
        exact ⟨rfl, hbr.out⟩
      | true =>
        have HA4 : Hid ((Ns.drop (j + 1)).all shortB = nb) := HA3
        go_wp2_with fail
        exact ⟨⟨j + 1, by omega, by go_num, HA4.out, hbr.out⟩, by simp [RowKit.intOf]; omega⟩
    · obtain rfl : j = m := by omega
      have hltj : ¬ (j : Int) < (j : Int) := by omega
      obtain rfl : true = nb := by rw [← hall.out, all_de _ _ _ (by rw [HN.out]; exact Nat.le_refl _)]
      clear hall
      go_wp2_with fail
      go_ret
      exact ⟨rfl, hbr.out⟩

set_option maxHeartbeats 4000000 in
theorem l07AskS (a : Option Addr) (n c : Nat) (L : List PM) (b : Option Addr) (m d : Nat) (Ns : List ByteArray) (w : World) (hL : L.length = n) (hn : n ≤ 1048576) (hs : ∀ x ∈ L, x.1.size ≤ 1048576 ∧ x.2.size ≤ 1048576) (h : Src w a (cellsP L)) (hN : Ns.length = m) (hm : m ≤ 100) (hz : ∀ s ∈ Ns, s.size ≤ 1048576) (h2 : Src w b (cellsS Ns)) (Q : Int) (HQ : Hid (askM L Ns = Q)) :
    Calls Tryz.prog 48 #[.slice a n c, .slice b m d] w fun e w' => e = .returned (.int .i64 Q) ∧ Below w.heap.size w w' := by
  have HL : Hid (L.length = n) := hL
  have HS : Hid (Src w a (cellsP L)) := h
  have HZ : Hid (∀ x ∈ L, x.1.size ≤ 1048576 ∧ x.2.size ≤ 1048576) := hs
  have HN : Hid (Ns.length = m) := hN
  have HT : Hid (Src w b (cellsS Ns)) := h2
  have HY : Hid (∀ s ∈ Ns, s.size ≤ 1048576) := hz

  clear hL h hs hN h2 hz
  by_cases hbig : 4096 < n
  · have HZQ : Hid (2 = Q) := by show _ = _; rw [← HQ.out]; unfold askM; rw [if_pos (.inl (by rw [HL.out]; exact hbig))]
    have hbi : (4096 : Int) < (n : Int) := by omega
    go_enter Tryz.func48, Tryz.ntmps48
    go_wp2_with fail
    go_ret
    exact ⟨ret_int HZQ.out, Below.refl _ _⟩
  have hbi : ¬ (4096 : Int) < (n : Int) := by omega
  have HQ1 : Hid ((if Ns.all smallT = false then 2 else if storeB L = false then 1 else if Ns.all shortB = false then 17 else 0) = Q) := by
    show _ = _
    rw [← HQ.out, ask_small (by rw [HL.out]; exact hbig)]
  clear HQ
  obtain ⟨sb, hsb⟩ : ∃ x, storeB L = x := ⟨_, rfl⟩
  have HSB : Hid (storeB L = sb) := hsb
  rw [hsb] at HQ1
  clear hsb
  obtain ⟨tb, htb⟩ : ∃ x, Ns.all smallT = x := ⟨_, rfl⟩
  obtain ⟨nb, hnb⟩ : ∃ x, Ns.all shortB = x := ⟨_, rfl⟩
  rw [htb, hnb] at HQ1
  have HTB : Hid ((Ns.drop 0).all smallT = tb) := htb
  have HNB : Hid ((Ns.drop 0).all shortB = nb) := hnb
  clear htb hnb
  go_enter Tryz.func48, Tryz.ntmps48
  go_wp2_with fail
  go_loopw [5] (fun iv wr => ∃ k : Nat, k ≤ m ∧ iv = .int .i64 (k : Int) ∧ Hid ((Ns.drop k).all smallT = tb) ∧ Hid (Below w.heap.size w wr)) (fun i _ => m - (RowKit.intOf i).toNat)
  case atStart => exact ⟨0, by omega, rfl, HTB.out, Below.refl _ _⟩
  case round =>
    obtain ⟨k, hk, rfl, hall, hbr⟩ := hrel
    by_cases hlt : k < m
    · have hlti : (k : Int) < (m : Int) := by omega
      have hkN : k < Ns.length := by rw [HN.out]; exact hlt
      obtain ⟨b', o', t, rfl, c1, hy⟩ := srcS (HT.out.below hbr.out) hkN
      have hts : t.size ≤ 1048576 := HY.out t (by rw [← hy.out]; exact mem_getD Ns e0 k hkN)
      have HA := hall.out
      rw [all_dx e0 smallT Ns k hkN, hy.out] at HA
      by_cases hbt : 65536 < t.size
      · have hbti : (65536 : Int) < (t.size : Int) := by omega
        rw [show smallT t = false from decide_eq_false (by omega), Bool.false_and] at HA
        have HZQ : Hid (2 = Q) := by show _ = _; rw [← HQ1.out, ← HA]; rfl
        clear HA hall
        go_wp2_with fail
        go_ret
        exact ⟨ret_int HZQ.out, hbr.out⟩
      · have hbti : ¬ (65536 : Int) < (t.size : Int) := by omega
        rw [show smallT t = true from decide_eq_true (by omega), Bool.true_and] at HA
        have HA2 : Hid ((Ns.drop (k + 1)).all smallT = tb) := HA
        clear HA hall
        go_wp2_with fail
        exact ⟨⟨k + 1, by omega, by go_num, HA2.out, hbr.out⟩, by simp [RowKit.intOf]; omega⟩
    · obtain rfl : k = m := by omega
      have hlti : ¬ (k : Int) < (k : Int) := by omega
      obtain rfl : true = tb := by rw [← hall.out, all_de _ _ _ (by rw [HN.out]; exact Nat.le_refl _)]
      have HQ2 : Hid ((if sb = false then 1 else if nb = false then 17 else 0) = Q) := by show _ = _; rw [← HQ1.out]; rfl
      clear hall HTB HQ1
      go_wp2_with fail
      refine (specMailStoreOK _ n c L _ HL.out hn HZ.out (HS.out.below hbr.out) sb HSB).mono ?_
      rintro e w3 ⟨rfl, hb3⟩
      have B3 : Hid (Below w.heap.size w w3) := hbr.out.trans (hb3.mono hbr.out.size)
      clear hb3
      cases sb with
      | false =>
        have HZQ : Hid (1 = Q) := by show _ = _; rw [← HQ2.out]; rfl
        go_wp2_with fail
        go_ret
        exact ⟨ret_int HZQ.out, B3.out⟩
      | true =>
        have HQ3 : Hid ((if nb = false then 17 else 0) = Q) := by show _ = _; rw [← HQ2.out]; rfl
        clear hbr
        go_wp2_with fail
        go_loopw [6] (fun iv wr => ∃ j : Nat, j ≤ k ∧ iv = .int .i64 (j : Int) ∧ Hid ((Ns.drop j).all shortB = nb) ∧ Hid (Below w.heap.size w wr)) (fun i _ => k - (RowKit.intOf i).toNat)
        case atStart => exact ⟨0, by omega, rfl, HNB.out, B3.out⟩
        case round =>
          obtain ⟨j, hj, rfl, hall, hbr⟩ := hrel
          by_cases hlt : j < k
          · have hltj : (j : Int) < (k : Int) := by omega
            have hkN : j < Ns.length := by rw [HN.out]; exact hlt
            obtain ⟨b', o', t, rfl, c1, hy⟩ := srcS (HT.out.below hbr.out) hkN
            have hts : t.size ≤ maxLen := by
              have := HY.out t (by rw [← hy.out]; exact mem_getD Ns e0 j hkN)
              unfold maxLen
              omega
            have HA := hall.out
            rw [all_dx e0 shortB Ns j hkN, hy.out] at HA
            obtain ⟨st, hst⟩ : ∃ x, shortB t = x := ⟨_, rfl⟩
            rw [hst] at HA
            have HA3 : Hid ((st && (Ns.drop (j + 1)).all shortB) = nb) := HA
            clear HA hall
            go_wp2_with fail
            refine (l04Is st t _ hst hts).mono ?_
            rintro e w5 ⟨rfl, hw5⟩
            obtain rfl := hw5
            cases st with
            | false =>
              have HZQ : Hid (17 = Q) := by show _ = _; rw [← HQ3.out, ← HA3.out]; rfl
              go_wp2_with fail
              go_ret
              exact ⟨ret_int HZQ.out, hbr.out⟩
            | true =>
              have HA4 : Hid ((Ns.drop (j + 1)).all shortB = nb) := HA3
              go_wp2_with fail
              exact ⟨⟨j + 1, by omega, by go_num, HA4.out, hbr.out⟩, by simp [RowKit.intOf]; omega⟩
          · obtain rfl : j = k := by omega
            have hltj : ¬ (j : Int) < (j : Int) := by omega
            obtain rfl : true = nb := by rw [← hall.out, all_de _ _ _ (by rw [HN.out]; exact Nat.le_refl _)]
            have HZQ : Hid (0 = Q) := by show _ = _; rw [← HQ3.out]; rfl
            clear hall
            go_wp2_with fail
            go_ret
            exact ⟨ret_int HZQ.out, hbr.out⟩

set_option maxHeartbeats 4000000 in
theorem mailFaultI (a : Option Addr) (n c : Nat) (L : List PM) (b : Option Addr) (m d : Nat) (Ns : List ByteArray) (w : World) (hL : L.length = n) (hn : n ≤ 1048576) (hs : ∀ x ∈ L, x.1.size ≤ 1048576 ∧ x.2.size ≤ 1048576) (h : Src w a (cellsP L)) (hN : Ns.length = m) (hm : m ≤ 100) (hz : ∀ s ∈ Ns, s.size ≤ 1048576) (h2 : Src w b (cellsS Ns)) (hG : Gl w) (h8 : 8 ≤ w.heap.size) (Q : Int) (HQ : Hid (askM L Ns = Q)) :
    Calls Tryz.prog 41 #[.slice a n c, .slice b m d] w fun e w' => e = .returned (.int .i64 Q) ∧ Below w.heap.size w w' := by
  have HL : Hid (L.length = n) := hL
  have HS : Hid (Src w a (cellsP L)) := h
  have HZ : Hid (∀ x ∈ L, x.1.size ≤ 1048576 ∧ x.2.size ≤ 1048576) := hs
  have HN : Hid (Ns.length = m) := hN
  have HT : Hid (Src w b (cellsS Ns)) := h2
  have HY : Hid (∀ s ∈ Ns, s.size ≤ 1048576) := hz
  have HG : Hid (Gl w) := hG
  clear hL h hs hN h2 hz hG
  by_cases hbig : 4096 < n
  · have HZQ : Hid (2 = Q) := by show _ = _; rw [← HQ.out]; unfold askM; rw [if_pos (.inl (by rw [HL.out]; exact hbig))]
    have hbi : (4096 : Int) < (n : Int) := by omega
    go_enter Tryz.func41, Tryz.ntmps41
    go_wp2_with fail
    go_ret
    exact ⟨ret_int HZQ.out, Below.refl _ _⟩
  have hbi : ¬ (4096 : Int) < (n : Int) := by omega
  have HQ1 : Hid ((if Ns.all smallT = false then 2 else if storeB L = false then 1 else if Ns.all shortB = false then 17 else 0) = Q) := by
    show _ = _
    rw [← HQ.out, ask_small (by rw [HL.out]; exact hbig)]
  clear HQ
  obtain ⟨sb, hsb⟩ : ∃ x, storeB L = x := ⟨_, rfl⟩
  have HSB : Hid (storeB L = sb) := hsb
  rw [hsb] at HQ1
  clear hsb
  obtain ⟨tb, htb⟩ : ∃ x, Ns.all smallT = x := ⟨_, rfl⟩
  obtain ⟨nb, hnb⟩ : ∃ x, Ns.all shortB = x := ⟨_, rfl⟩
  rw [htb, hnb] at HQ1
  have HTB : Hid ((Ns.drop 0).all smallT = tb) := htb
  have HNB : Hid ((Ns.drop 0).all shortB = nb) := hnb
  clear htb hnb
  go_enter Tryz.func41, Tryz.ntmps41
  go_wp2_with fail
  go_loopw [12] (fun iv wr => ∃ k : Nat, k ≤ m ∧ iv = .int .i64 (k : Int) ∧ Hid ((Ns.drop k).all smallT = tb) ∧ Hid (Below w.heap.size w wr)) (fun i _ => m - (RowKit.intOf i).toNat)
  case atStart => exact ⟨0, by omega, rfl, HTB.out, Below.refl _ _⟩
  case round =>
    obtain ⟨k, hk, rfl, hall, hbr⟩ := hrel
    by_cases hlt : k < m
    · have hlti : (k : Int) < (m : Int) := by omega
      have hkN : k < Ns.length := by rw [HN.out]; exact hlt
      obtain ⟨b', o', t, rfl, c1, hy⟩ := srcS (HT.out.below hbr.out) hkN
      have hts : t.size ≤ 1048576 := HY.out t (by rw [← hy.out]; exact mem_getD Ns e0 k hkN)
      have HA := hall.out
      rw [all_dx e0 smallT Ns k hkN, hy.out] at HA
      by_cases hbt : 65536 < t.size
      · have hbti : (65536 : Int) < (t.size : Int) := by omega
        rw [show smallT t = false from decide_eq_false (by omega), Bool.false_and] at HA
        have HZQ : Hid (2 = Q) := by show _ = _; rw [← HQ1.out, ← HA]; rfl
        clear HA hall
        go_wp2_with fail
        go_ret
        exact ⟨ret_int HZQ.out, hbr.out⟩
      · have hbti : ¬ (65536 : Int) < (t.size : Int) := by omega
        rw [show smallT t = true from decide_eq_true (by omega), Bool.true_and] at HA
        have HA2 : Hid ((Ns.drop (k + 1)).all smallT = tb) := HA
        clear HA hall
        go_wp2_with fail
        exact ⟨⟨k + 1, by omega, by go_num, HA2.out, hbr.out⟩, by simp [RowKit.intOf]; omega⟩
    · obtain rfl : k = m := by omega
      have hlti : ¬ (k : Int) < (k : Int) := by omega
      obtain rfl : true = tb := by rw [← hall.out, all_de _ _ _ (by rw [HN.out]; exact Nat.le_refl _)]
      have HQ2 : Hid ((if sb = false then 1 else if nb = false then 17 else 0) = Q) := by show _ = _; rw [← HQ1.out]; rfl
      clear hall HTB HQ1
      go_wp2_with fail
      refine (implMailStoreOK _ n c L _ HL.out hn HZ.out (HS.out.below hbr.out) (HG.out.below h8 hbr.out) (by have := hbr.out.size; omega) sb ((impl_store L).trans HSB.out)).mono ?_
      rintro e w3 ⟨rfl, hb3⟩
      have B3 : Hid (Below w.heap.size w w3) := hbr.out.trans (hb3.mono hbr.out.size)
      clear hb3
      cases sb with
      | false =>
        have HZQ : Hid (1 = Q) := by show _ = _; rw [← HQ2.out]; rfl
        go_wp2_with fail
        go_ret
        exact ⟨ret_int HZQ.out, B3.out⟩
      | true =>
        have HQ3 : Hid ((if nb = false then 17 else 0) = Q) := by show _ = _; rw [← HQ2.out]; rfl
        have CS := allShortI b k d Ns w3 HN.out hm HY.out (HT.out.below B3.out) nb HNB
        clear hbr
        go_wp2_with fail
        refine CS.mono ?_
        rintro e w5 ⟨rfl, hb5⟩
        have B5 : Hid (Below w.heap.size w w5) := B3.out.trans (hb5.mono B3.out.size)
        clear hb5 CS
        cases nb with
        | false =>
          have HZQ : Hid (17 = Q) := by show _ = _; rw [← HQ3.out]; rfl
          go_wp2_with fail
          go_ret
          exact ⟨ret_int HZQ.out, B5.out⟩
        | true =>
          have HZQ : Hid (0 = Q) := by show _ = _; rw [← HQ3.out]; rfl
          go_wp2_with fail
          go_ret
          exact ⟨ret_int HZQ.out, B5.out⟩
end Go.Proofs.YtddnecljdecamaaGreatDoor
namespace Go.Proofs.YtddnecljdecamaaGreatDoor
open Go.ChangeShapes Go.WideShapes Go.ChangeAt Go.RowKit Go.Deep Go.Lib
set_option linter.unusedVariables false
set_option linter.unusedSimpArgs false
set_option maxRecDepth 100000

theorem take_word {nx : Int} {u : ByteArray} {S S' : SM} {q : PM} (hus : (47 : UInt8) ∉ u.data.toList) (h : takeM nx u S q = some S') : S'.word = if q.1 = userK u then q.2 else S.word := by
  by_cases ho : ownerM q = some u
  · unfold takeM at h
    unfold ownerM at ho
    match hG : splitL 47 q.1.data.toList, ho, h with
    | [a, b], ho, h =>
      obtain ⟨h1, h2⟩ := ite_some ho
      subst h1
      have h3 : takeP nx u S q [[117], b] = userM u S q.2 := if_pos ⟨h2, rfl⟩
      rw [h3] at h
      unfold userM at h
      obtain ⟨_, rfl⟩ := ite_some h
      rw [if_pos (by rw [(key_user hG).1, h2])]
    | [a, b, c], ho, h =>
      obtain ⟨h1, h2⟩ := ite_some ho
      have h3 : takeP nx u S q [a, b, c] = putM S (folderM nx (bs c) q.2) := if_pos ⟨h2, h1⟩
      rw [h3] at h
      rw [(put_aside h).2, if_neg fun e => by rw [e, parts_user hus] at hG; cases hG]
    | [a, b, c, d], ho, h =>
      obtain ⟨h1, h2⟩ := ite_some ho
      have h3 : takeP nx u S q [a, b, c, d] = putM S (mailM S.fs (bs c) (bs d) q.2) := if_pos ⟨h2, h1⟩
      rw [h3] at h
      rw [(put_aside h).2, if_neg fun e => by rw [e, parts_user hus] at hG; cases hG]
  · have h3 : asideM S q = some S' := (take_other ho).symm.trans h
    cases h3
    rw [if_neg fun e => ho (by unfold ownerM; rw [e, parts_user hus]; rfl)]
theorem all_word {nx : Int} {u : ByteArray} (hus : (47 : UInt8) ∉ u.data.toList) : ∀ {L : List PM} {S S' : SM}, UpL L → takeAll nx u S L = some S' → S'.word = (getM L (userK u)).getD S.word
  | [], S, S', _, h => by cases h; rfl
  | q :: L, S, S', hu, h => by
    unfold takeAll at h
    obtain ⟨S1, h1, h2⟩ := Option.bind_eq_some_iff.1 h
    obtain ⟨u1, u2⟩ := List.pairwise_cons.1 hu
    have hgm : getM (q :: L) (userK u) = if q.1 = userK u then some q.2 else getM L (userK u) := rfl
    rw [all_word hus u2 h2, take_word hus h1, hgm]
    by_cases e : q.1 = userK u
    · have h3 : getM L (userK u) = none := getM_none.2 fun x hx e9 => by
        have h9 := u1 x hx
        rw [e, e9] at h9
        exact ltK_irrefl _ h9
      rw [if_pos e, if_pos e, h3]
      rfl
    · rw [if_neg e, if_neg e]
theorem word_slash {u : ByteArray} (h : shortB u = true) : (47 : UInt8) ∉ u.data.toList := by
  unfold shortB wordB at h
  simp only [Bool.and_eq_true, decide_eq_true_eq] at h
  obtain ⟨⟨⟨⟨h1, _⟩, h2⟩, h3⟩, _⟩ := h
  match hd : u.data.toList with
  | [] => simp
  | c :: r =>
    rw [hd] at h2
    unfold okFrom at h3
    rw [hd] at h3
    rw [List.all_eq_true] at h3
    intro h9
    rcases List.mem_cons.1 h9 with h9 | h9
    · rw [← h9] at h2
      have h2 : letB (((47 : UInt8).toNat : Nat) : Int) = true := h2
      exact absurd h2 (by decide)
    · exact absurd (h3 47 (by simpa using h9)) (by decide)
/-- The facts that a right mail store gives. -/
theorem store_facts {L : List PM} (h : storeB L = true) : GoodL L ∧ ∃ nx, nx = nextM L ∧ 1 ≤ nx ∧ nx ≤ 10000 ∧ inB (numB ((getM L vK).getD e0).data.toList) 1 10000 = true ∧ (∀ u, (∃ q ∈ L, q.1 = userK u) → layF nx u S0 L = true) ∧ ∀ q ∈ L, q.1 = vK ∨ ∃ u, ownerM q = some u ∧ ∃ z ∈ L, z.1 = userK u := by
  have h2 : implB L = true := (impl_store L).trans h
  unfold implB at h2
  rw [Bool.and_eq_true, Bool.and_eq_true] at h2
  obtain ⟨h3, h4, h5⟩ := h2
  have hg := good_of h3
  cases hv : getM L vK with
  | none => rw [hv] at h4; exact absurd h4 (by decide)
  | some v0 =>
    have h4' := h4
    rw [hv, Option.getD_some] at h4
    cases hn : numB v0.data.toList with
    | none => rw [hn] at h4; cases h4
    | some nx =>
      have hnm : nx = nextM L := by unfold nextM; rw [hv]; simp [hn]
      rw [hn] at h4
      have h6 : (decide (1 ≤ nx) && decide (nx ≤ 10000)) = true := h4
      rw [Bool.and_eq_true, decide_eq_true_eq, decide_eq_true_eq] at h6
      obtain ⟨k1, k2⟩ := (known_iff hnm hg.2.2 ⟨_, (getM_mem hg.2.2).1 hv, rfl⟩).1 h5
      rw [hv] at h4'
      exact ⟨hg, nx, hnm, h6.1, h6.2, h4', k1, k2⟩
theorem take_all {L : List PM} {u : ByteArray} (h : storeB L = true) (hus : (47 : UInt8) ∉ u.data.toList) : ∃ S, takeAll (nextM L) u S0 L = some S ∧ S.word = (getM L (userK u)).getD e0 ∧ Inv (nextM L) u L S := by
  obtain ⟨hg, nx, hnm, _, h2, _, k1, k2⟩ := store_facts h
  rw [← hnm]
  have hI : Inv nx u [] S0 := ⟨fun name f' hf => (by cases hf), fun name w _ hm => (by cases hm), rfl⟩
  obtain ⟨m1, m2⟩ := all_step h2 hg.2.2 hus L [] S0 rfl hI
  have hs : (takeAll nx u S0 L).isSome = true := m1.2 fun q hq ho => by
    rcases k2 q hq with e | ⟨u2, ho2, hz⟩
    · rw [owner_v e] at ho; cases ho
    · rw [ho] at ho2
      cases ho2
      exact ((lay_iff h2 hg.2.2 hus).1 (k1 u hz)).1 q hq ho
  obtain ⟨S, hS⟩ := Option.isSome_iff_exists.1 hs
  exact ⟨S, hS, all_word hus hg.2.2 hS, m2 S hS⟩
theorem word_some {L : List PM} (h : storeB L = true) {u v : ByteArray} (hus : (47 : UInt8) ∉ u.data.toList) (hv : getM L (userK u) = some v) : v.toList ≠ [] := by
  obtain ⟨hg, nx, hnm, _, h2, _, k1, k2⟩ := store_facts h
  have hm := (getM_mem hg.2.2).1 hv
  have h3 := ((lay_iff h2 hg.2.2 hus).1 (k1 u ⟨_, hm, rfl⟩)).1 _ hm (by unfold ownerM; rw [parts_user hus]; rfl)
  have h4 : shortB v = true := by
    simp only [parts_user hus] at h3
    exact h3.2
  intro e
  rw [ByteArray.toList_eq] at e
  have h5 : v = ⟨#[]⟩ := bs_inj e
  rw [h5] at h4
  exact absurd h4 (by decide)
end Go.Proofs.YtddnecljdecamaaGreatDoor
