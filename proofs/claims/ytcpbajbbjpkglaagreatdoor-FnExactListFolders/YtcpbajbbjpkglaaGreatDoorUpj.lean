/-
  Ask7 Usp Upi in one. By an AI agent.
-/
import Derived.Test.YtcpbajbbjpkglaaGreatDoorEqe
namespace Go.Proofs.YtcpbajbbjpkglaaGreatDoor
open Go.ChangeShapes Go.WideShapes Go.ChangeAt Go.RowKit Go.Deep Go.Lib
set_option linter.unusedVariables false
set_option linter.unusedSimpArgs false
set_option maxRecDepth 100000

theorem all_dx {α : Type} (d : α) (f : α → Bool) (L : List α) (k : Nat) (hk : k < L.length) : (L.drop k).all f = (f (L.getD k d) && (L.drop (k + 1)).all f) := by
  rw [List.drop_eq_getElem_cons hk, List.getD_eq_getElem?_getD, List.getElem?_eq_getElem hk]
  rfl
theorem all_de {α : Type} (f : α → Bool) (L : List α) (k : Nat) (hk : L.length ≤ k) : (L.drop k).all f = true := by
  rw [List.drop_of_length_le hk]
  rfl
abbrev smallT (s : ByteArray) : Bool := decide (s.size ≤ 65536)
def askM (L : List PM) (Ns : List ByteArray) : Int := if 4096 < L.length ∨ Ns.all smallT = false then 2 else if storeB L = false then 1 else if Ns.all shortB = false then 17 else 0
theorem ask_small {L : List PM} {Ns : List ByteArray} (h : ¬ 4096 < L.length) : askM L Ns = if Ns.all smallT = false then 2 else if storeB L = false then 1 else if Ns.all shortB = false then 17 else 0 := by
  unfold askM
  by_cases h9 : Ns.all smallT = false
  · rw [if_pos (.inr h9), if_pos h9]
  · have h8 : ¬ (4096 < L.length ∨ Ns.all smallT = false) := fun h7 => h7.elim h h9
    rw [if_neg h8, if_neg h9]

set_option maxHeartbeats 4000000 in
theorem l07AskS (a : Option Addr) (n c : Nat) (L : List PM) (b : Option Addr) (m d : Nat) (Ns : List ByteArray) (w : World) (hL : L.length = n) (hn : n ≤ 1048576) (hs : ∀ x ∈ L, x.1.size ≤ 1048576 ∧ x.2.size ≤ 1048576) (h : Src w a (cellsP L)) (hN : Ns.length = m) (hm : m ≤ 100) (hz : ∀ s ∈ Ns, s.size ≤ 1048576) (h2 : Src w b (cellsS Ns)) (Q : Int) (HQ : Hid (askM L Ns = Q)) :
    Calls Tryz.prog 39 #[.slice a n c, .slice b m d] w fun e w' => e = .returned (.int .i64 Q) ∧ Below w.heap.size w w' := by
  have HL : Hid (L.length = n) := hL
  have HS : Hid (Src w a (cellsP L)) := h
  have HZ : Hid (∀ x ∈ L, x.1.size ≤ 1048576 ∧ x.2.size ≤ 1048576) := hs
  have HN : Hid (Ns.length = m) := hN
  have HT : Hid (Src w b (cellsS Ns)) := h2
  have HY : Hid (∀ s ∈ Ns, s.size ≤ 1048576) := hz

  clear hL h hs hN h2 hz
  by_cases hbig : 4096 < n
  · have HZQ : Hid (2 = Q) := by show _ = _; rw [← HQ.out]; unfold askM; rw [if_pos (.inl (by rw [HL.out]; exact hbig))]
    have hbi : (4096 : Int) < (n : Int) := by omega
    go_enter Tryz.func39, Tryz.ntmps39
    go_wp2_with fail
    go_ret
    exact ⟨ret_int HZQ.out, Below.refl _ _⟩
  have hbi : ¬ (4096 : Int) < (n : Int) := by omega
  have HQ1 : Hid ((if Ns.all smallT = false then 2 else if storeB L = false then 1 else if Ns.all shortB = false then 17 else 0) = Q) := by
    show _ = _
    rw [← HQ.out, ask_small (by rw [HL.out]; exact hbig)]
  clear HQ
  obtain ⟨sb, hsb⟩ : ∃ x, storeB L = x := ⟨_, rfl⟩
  have HSB : Hid (storeB L = sb) := hsb
  rw [hsb] at HQ1
  clear hsb
  obtain ⟨tb, htb⟩ : ∃ x, Ns.all smallT = x := ⟨_, rfl⟩
  obtain ⟨nb, hnb⟩ : ∃ x, Ns.all shortB = x := ⟨_, rfl⟩
  rw [htb, hnb] at HQ1
  have HTB : Hid ((Ns.drop 0).all smallT = tb) := htb
  have HNB : Hid ((Ns.drop 0).all shortB = nb) := hnb
  clear htb hnb
  go_enter Tryz.func39, Tryz.ntmps39
  go_wp2_with fail
  go_loopw [5] (fun iv wr => ∃ k : Nat, k ≤ m ∧ iv = .int .i64 (k : Int) ∧ Hid ((Ns.drop k).all smallT = tb) ∧ Hid (Below w.heap.size w wr)) (fun i _ => m - (intOf i).toNat)
  case atStart => exact ⟨0, by omega, rfl, HTB.out, Below.refl _ _⟩
  case round =>
    obtain ⟨k, hk, rfl, hall, hbr⟩ := hrel
    by_cases hlt : k < m
    · have hlti : (k : Int) < (m : Int) := by omega
      have hkN : k < Ns.length := by rw [HN.out]; exact hlt
      obtain ⟨b', o', t, rfl, c1, hy⟩ := srcS (HT.out.below hbr.out) hkN
      have hts : t.size ≤ 1048576 := HY.out t (by rw [← hy.out]; exact mem_getD Ns e0 k hkN)
      have HA := hall.out
      rw [all_dx e0 smallT Ns k hkN, hy.out] at HA
      by_cases hbt : 65536 < t.size
      · have hbti : (65536 : Int) < (t.size : Int) := by omega
        rw [show smallT t = false from decide_eq_false (by omega), Bool.false_and] at HA
        have HZQ : Hid (2 = Q) := by show _ = _; rw [← HQ1.out, ← HA]; rfl
        clear HA hall
        go_wp2_with fail
        go_ret
        exact ⟨ret_int HZQ.out, hbr.out⟩
      · have hbti : ¬ (65536 : Int) < (t.size : Int) := by omega
        rw [show smallT t = true from decide_eq_true (by omega), Bool.true_and] at HA
        have HA2 : Hid ((Ns.drop (k + 1)).all smallT = tb) := HA
        clear HA hall
        go_wp2_with fail
        exact ⟨⟨k + 1, by omega, by go_num, HA2.out, hbr.out⟩, by simp [intOf]; omega⟩
    · obtain rfl : k = m := by omega
      have hlti : ¬ (k : Int) < (k : Int) := by omega
      obtain rfl : true = tb := by rw [← hall.out, all_de _ _ _ (by rw [HN.out]; exact Nat.le_refl _)]
      have HQ2 : Hid ((if sb = false then 1 else if nb = false then 17 else 0) = Q) := by show _ = _; rw [← HQ1.out]; rfl
      clear hall HTB HQ1
      go_wp2_with fail
      refine (specMailStoreOK _ n c L _ HL.out hn HZ.out (HS.out.below hbr.out) sb HSB).mono ?_
      rintro e w3 ⟨rfl, hb3⟩
      have B3 : Hid (Below w.heap.size w w3) := hbr.out.trans (hb3.mono hbr.out.size)
      clear hb3
      cases sb with
      | false =>
        have HZQ : Hid (1 = Q) := by show _ = _; rw [← HQ2.out]; rfl
        go_wp2_with fail
        go_ret
        exact ⟨ret_int HZQ.out, B3.out⟩
      | true =>
        have HQ3 : Hid ((if nb = false then 17 else 0) = Q) := by show _ = _; rw [← HQ2.out]; rfl
        clear hbr
        go_wp2_with fail
        go_loopw [6] (fun iv wr => ∃ j : Nat, j ≤ k ∧ iv = .int .i64 (j : Int) ∧ Hid ((Ns.drop j).all shortB = nb) ∧ Hid (Below w.heap.size w wr)) (fun i _ => k - (intOf i).toNat)
        case atStart => exact ⟨0, by omega, rfl, HNB.out, B3.out⟩
        case round =>
          obtain ⟨j, hj, rfl, hall, hbr⟩ := hrel
          by_cases hlt : j < k
          · have hltj : (j : Int) < (k : Int) := by omega
            have hkN : j < Ns.length := by rw [HN.out]; exact hlt
            obtain ⟨b', o', t, rfl, c1, hy⟩ := srcS (HT.out.below hbr.out) hkN
            have hts : t.size ≤ maxLen := by
              have := HY.out t (by rw [← hy.out]; exact mem_getD Ns e0 j hkN)
              unfold maxLen
              omega
            have HA := hall.out
            rw [all_dx e0 shortB Ns j hkN, hy.out] at HA
            obtain ⟨st, hst⟩ : ∃ x, shortB t = x := ⟨_, rfl⟩
            rw [hst] at HA
            have HA3 : Hid ((st && (Ns.drop (j + 1)).all shortB) = nb) := HA
            clear HA hall
            go_wp2_with fail
            refine (l04Is st t _ hst hts).mono ?_
            rintro e w5 ⟨rfl, hw5⟩
            obtain rfl := hw5
            cases st with
            | false =>
              have HZQ : Hid (17 = Q) := by show _ = _; rw [← HQ3.out, ← HA3.out]; rfl
              go_wp2_with fail
              go_ret
              exact ⟨ret_int HZQ.out, hbr.out⟩
            | true =>
              have HA4 : Hid ((Ns.drop (j + 1)).all shortB = nb) := HA3
              go_wp2_with fail
              exact ⟨⟨j + 1, by omega, by go_num, HA4.out, hbr.out⟩, by simp [intOf]; omega⟩
          · obtain rfl : j = k := by omega
            have hltj : ¬ (j : Int) < (j : Int) := by omega
            obtain rfl : true = nb := by rw [← hall.out, all_de _ _ _ (by rw [HN.out]; exact Nat.le_refl _)]
            have HZQ : Hid (0 = Q) := by show _ = _; rw [← HQ3.out]; rfl
            clear hall
            go_wp2_with fail
            go_ret
            exact ⟨ret_int HZQ.out, hbr.out⟩

set_option maxHeartbeats 4000000 in
theorem mailFaultI (a : Option Addr) (n c : Nat) (L : List PM) (b : Option Addr) (m d : Nat) (Ns : List ByteArray) (w : World) (hL : L.length = n) (hn : n ≤ 1048576) (hs : ∀ x ∈ L, x.1.size ≤ 1048576 ∧ x.2.size ≤ 1048576) (h : Src w a (cellsP L)) (hN : Ns.length = m) (hm : m ≤ 100) (hz : ∀ s ∈ Ns, s.size ≤ 1048576) (h2 : Src w b (cellsS Ns)) (hG : Gl w) (h8 : 8 ≤ w.heap.size) (Q : Int) (HQ : Hid (askM L Ns = Q)) :
    Calls Tryz.prog 42 #[.slice a n c, .slice b m d] w fun e w' => e = .returned (.int .i64 Q) ∧ Below w.heap.size w w' := by
  have HL : Hid (L.length = n) := hL
  have HS : Hid (Src w a (cellsP L)) := h
  have HZ : Hid (∀ x ∈ L, x.1.size ≤ 1048576 ∧ x.2.size ≤ 1048576) := hs
  have HN : Hid (Ns.length = m) := hN
  have HT : Hid (Src w b (cellsS Ns)) := h2
  have HY : Hid (∀ s ∈ Ns, s.size ≤ 1048576) := hz
  have HG : Hid (Gl w) := hG
  clear hL h hs hN h2 hz hG
  by_cases hbig : 4096 < n
  · have HZQ : Hid (2 = Q) := by show _ = _; rw [← HQ.out]; unfold askM; rw [if_pos (.inl (by rw [HL.out]; exact hbig))]
    have hbi : (4096 : Int) < (n : Int) := by omega
    go_enter Tryz.func42, Tryz.ntmps42
    go_wp2_with fail
    go_ret
    exact ⟨ret_int HZQ.out, Below.refl _ _⟩
  have hbi : ¬ (4096 : Int) < (n : Int) := by omega
  have HQ1 : Hid ((if Ns.all smallT = false then 2 else if storeB L = false then 1 else if Ns.all shortB = false then 17 else 0) = Q) := by
    show _ = _
    rw [← HQ.out, ask_small (by rw [HL.out]; exact hbig)]
  clear HQ
  obtain ⟨sb, hsb⟩ : ∃ x, storeB L = x := ⟨_, rfl⟩
  have HSB : Hid (storeB L = sb) := hsb
  rw [hsb] at HQ1
  clear hsb
  obtain ⟨tb, htb⟩ : ∃ x, Ns.all smallT = x := ⟨_, rfl⟩
  obtain ⟨nb, hnb⟩ : ∃ x, Ns.all shortB = x := ⟨_, rfl⟩
  rw [htb, hnb] at HQ1
  have HTB : Hid ((Ns.drop 0).all smallT = tb) := htb
  have HNB : Hid ((Ns.drop 0).all shortB = nb) := hnb
  clear htb hnb
  go_enter Tryz.func42, Tryz.ntmps42
  go_wp2_with fail
  go_loopw [14] (fun iv wr => ∃ k : Nat, k ≤ m ∧ iv = .int .i64 (k : Int) ∧ Hid ((Ns.drop k).all smallT = tb) ∧ Hid (Below w.heap.size w wr)) (fun i _ => m - (intOf i).toNat)
  case atStart => exact ⟨0, by omega, rfl, HTB.out, Below.refl _ _⟩
  case round =>
    obtain ⟨k, hk, rfl, hall, hbr⟩ := hrel
    by_cases hlt : k < m
    · have hlti : (k : Int) < (m : Int) := by omega
      have hkN : k < Ns.length := by rw [HN.out]; exact hlt
      obtain ⟨b', o', t, rfl, c1, hy⟩ := srcS (HT.out.below hbr.out) hkN
      have hts : t.size ≤ 1048576 := HY.out t (by rw [← hy.out]; exact mem_getD Ns e0 k hkN)
      have HA := hall.out
      rw [all_dx e0 smallT Ns k hkN, hy.out] at HA
      by_cases hbt : 65536 < t.size
      · have hbti : (65536 : Int) < (t.size : Int) := by omega
        rw [show smallT t = false from decide_eq_false (by omega), Bool.false_and] at HA
        have HZQ : Hid (2 = Q) := by show _ = _; rw [← HQ1.out, ← HA]; rfl
        clear HA hall
        go_wp2_with fail
        go_ret
        exact ⟨ret_int HZQ.out, hbr.out⟩
      · have hbti : ¬ (65536 : Int) < (t.size : Int) := by omega
        rw [show smallT t = true from decide_eq_true (by omega), Bool.true_and] at HA
        have HA2 : Hid ((Ns.drop (k + 1)).all smallT = tb) := HA
        clear HA hall
        go_wp2_with fail
        exact ⟨⟨k + 1, by omega, by go_num, HA2.out, hbr.out⟩, by simp [intOf]; omega⟩
    · obtain rfl : k = m := by omega
      have hlti : ¬ (k : Int) < (k : Int) := by omega
      obtain rfl : true = tb := by rw [← hall.out, all_de _ _ _ (by rw [HN.out]; exact Nat.le_refl _)]
      have HQ2 : Hid ((if sb = false then 1 else if nb = false then 17 else 0) = Q) := by show _ = _; rw [← HQ1.out]; rfl
      clear hall HTB HQ1
      go_wp2_with fail
      refine (implMailStoreOK _ n c L _ HL.out hn HZ.out (HS.out.below hbr.out) (HG.out.below h8 hbr.out) (by have := hbr.out.size; omega) sb ((impl_store L).trans HSB.out)).mono ?_
      rintro e w3 ⟨rfl, hb3⟩
      have B3 : Hid (Below w.heap.size w w3) := hbr.out.trans (hb3.mono hbr.out.size)
      clear hb3
      cases sb with
      | false =>
        have HZQ : Hid (1 = Q) := by show _ = _; rw [← HQ2.out]; rfl
        go_wp2_with fail
        go_ret
        exact ⟨ret_int HZQ.out, B3.out⟩
      | true =>
        have HQ3 : Hid ((if nb = false then 17 else 0) = Q) := by show _ = _; rw [← HQ2.out]; rfl
        clear hbr
        go_wp2_with fail
        go_loopw [27] (fun iv wr => ∃ j : Nat, j ≤ k ∧ iv = .int .i64 (j : Int) ∧ Hid ((Ns.drop j).all shortB = nb) ∧ Hid (Below w.heap.size w wr)) (fun i _ => k - (intOf i).toNat)
        case atStart => exact ⟨0, by omega, rfl, HNB.out, B3.out⟩
        case round =>
          obtain ⟨j, hj, rfl, hall, hbr⟩ := hrel
          by_cases hlt : j < k
          · have hltj : (j : Int) < (k : Int) := by omega
            have hkN : j < Ns.length := by rw [HN.out]; exact hlt
            obtain ⟨b', o', t, rfl, c1, hy⟩ := srcS (HT.out.below hbr.out) hkN
            have hts : t.size ≤ maxLen := by
              have := HY.out t (by rw [← hy.out]; exact mem_getD Ns e0 j hkN)
              unfold maxLen
              omega
            have HA := hall.out
            rw [all_dx e0 shortB Ns j hkN, hy.out] at HA
            obtain ⟨st, hst⟩ : ∃ x, shortB t = x := ⟨_, rfl⟩
            rw [hst] at HA
            have HA3 : Hid ((st && (Ns.drop (j + 1)).all shortB) = nb) := HA
            clear HA hall
            go_wp2_with fail
            refine (shortIs st t _ hst hts).mono ?_
            rintro e w5 ⟨rfl, hw5⟩
            obtain rfl := hw5
            cases st with
            | false =>
              have HZQ : Hid (17 = Q) := by show _ = _; rw [← HQ3.out, ← HA3.out]; rfl
              go_wp2_with fail
              go_ret
              exact ⟨ret_int HZQ.out, hbr.out⟩
            | true =>
              have HA4 : Hid ((Ns.drop (j + 1)).all shortB = nb) := HA3
              go_wp2_with fail
              exact ⟨⟨j + 1, by omega, by go_num, HA4.out, hbr.out⟩, by simp [intOf]; omega⟩
          · obtain rfl : j = k := by omega
            have hltj : ¬ (j : Int) < (j : Int) := by omega
            obtain rfl : true = nb := by rw [← hall.out, all_de _ _ _ (by rw [HN.out]; exact Nat.le_refl _)]
            have HZQ : Hid (0 = Q) := by show _ = _; rw [← HQ3.out]; rfl
            clear hall
            go_wp2_with fail
            go_ret
            exact ⟨ret_int HZQ.out, hbr.out⟩
end Go.Proofs.YtcpbajbbjpkglaaGreatDoor
namespace Go.Proofs.YtcpbajbbjpkglaaGreatDoor
open Go.ChangeShapes Go.WideShapes Go.ChangeAt Go.RowKit Go.Deep Go.Lib
set_option linter.unusedVariables false
set_option linter.unusedSimpArgs false
set_option maxRecDepth 100000

theorem take_word {nx : Int} {u : ByteArray} {S S' : SM} {q : PM} (hus : (47 : UInt8) ∉ u.data.toList) (h : takeM nx u S q = some S') : S'.word = if q.1 = userK u then q.2 else S.word := by
  by_cases ho : ownerM q = some u
  · unfold takeM at h
    unfold ownerM at ho
    match hG : splitL 47 q.1.data.toList, ho, h with
    | [a, b], ho, h =>
      obtain ⟨h1, h2⟩ := ite_some ho
      subst h1
      have h3 : takeP nx u S q [[117], b] = userM u S q.2 := if_pos ⟨h2, rfl⟩
      rw [h3] at h
      unfold userM at h
      obtain ⟨_, rfl⟩ := ite_some h
      rw [if_pos (by rw [(key_user hG).1, h2])]
    | [a, b, c], ho, h =>
      obtain ⟨h1, h2⟩ := ite_some ho
      have h3 : takeP nx u S q [a, b, c] = putM S (folderM nx (bs c) q.2) := if_pos ⟨h2, h1⟩
      rw [h3] at h
      rw [(put_aside h).2, if_neg fun e => by rw [e, parts_user hus] at hG; cases hG]
    | [a, b, c, d], ho, h =>
      obtain ⟨h1, h2⟩ := ite_some ho
      have h3 : takeP nx u S q [a, b, c, d] = putM S (mailM S.fs (bs c) (bs d) q.2) := if_pos ⟨h2, h1⟩
      rw [h3] at h
      rw [(put_aside h).2, if_neg fun e => by rw [e, parts_user hus] at hG; cases hG]
  · have h3 : asideM S q = some S' := (take_other ho).symm.trans h
    cases h3
    rw [if_neg fun e => ho (by unfold ownerM; rw [e, parts_user hus]; rfl)]
theorem all_word {nx : Int} {u : ByteArray} (hus : (47 : UInt8) ∉ u.data.toList) : ∀ {L : List PM} {S S' : SM}, UpL L → takeAll nx u S L = some S' → S'.word = (getM L (userK u)).getD S.word
  | [], S, S', _, h => by cases h; rfl
  | q :: L, S, S', hu, h => by
    unfold takeAll at h
    obtain ⟨S1, h1, h2⟩ := Option.bind_eq_some_iff.1 h
    obtain ⟨u1, u2⟩ := List.pairwise_cons.1 hu
    have hgm : getM (q :: L) (userK u) = if q.1 = userK u then some q.2 else getM L (userK u) := rfl
    rw [all_word hus u2 h2, take_word hus h1, hgm]
    by_cases e : q.1 = userK u
    · have h3 : getM L (userK u) = none := getM_none.2 fun x hx e9 => by
        have h9 := u1 x hx
        rw [e, e9] at h9
        exact ltK_irrefl _ h9
      rw [if_pos e, if_pos e, h3]
      rfl
    · rw [if_neg e, if_neg e]
theorem word_slash {u : ByteArray} (h : shortB u = true) : (47 : UInt8) ∉ u.data.toList := by
  unfold shortB wordB at h
  simp only [Bool.and_eq_true, decide_eq_true_eq] at h
  obtain ⟨⟨⟨⟨h1, _⟩, h2⟩, h3⟩, _⟩ := h
  match hd : u.data.toList with
  | [] => simp
  | c :: r =>
    rw [hd] at h2
    unfold okFrom at h3
    rw [hd] at h3
    rw [List.all_eq_true] at h3
    intro h9
    rcases List.mem_cons.1 h9 with h9 | h9
    · rw [← h9] at h2
      have h2 : letB (((47 : UInt8).toNat : Nat) : Int) = true := h2
      exact absurd h2 (by decide)
    · exact absurd (h3 47 (by simpa using h9)) (by decide)
/-- The facts that a right mail store gives. -/
theorem store_facts {L : List PM} (h : storeB L = true) : GoodL L ∧ ∃ nx, nx = nextM L ∧ 1 ≤ nx ∧ nx ≤ 10000 ∧ inB (numB ((getM L vK).getD e0).data.toList) 1 10000 = true ∧ (∀ u, (∃ q ∈ L, q.1 = userK u) → layF nx u S0 L = true) ∧ ∀ q ∈ L, q.1 = vK ∨ ∃ u, ownerM q = some u ∧ ∃ z ∈ L, z.1 = userK u := by
  have h2 : implB L = true := (impl_store L).trans h
  unfold implB at h2
  rw [Bool.and_eq_true, Bool.and_eq_true] at h2
  obtain ⟨h3, h4, h5⟩ := h2
  have hg := good_of h3
  cases hv : getM L vK with
  | none => rw [hv] at h4; exact absurd h4 (by decide)
  | some v0 =>
    have h4' := h4
    rw [hv, Option.getD_some] at h4
    cases hn : numB v0.data.toList with
    | none => rw [hn] at h4; cases h4
    | some nx =>
      have hnm : nx = nextM L := by unfold nextM; rw [hv]; simp [hn]
      rw [hn] at h4
      have h6 : (decide (1 ≤ nx) && decide (nx ≤ 10000)) = true := h4
      rw [Bool.and_eq_true, decide_eq_true_eq, decide_eq_true_eq] at h6
      obtain ⟨k1, k2⟩ := (known_iff hnm hg.2.2 ⟨_, (getM_mem hg.2.2).1 hv, rfl⟩).1 h5
      rw [hv] at h4'
      exact ⟨hg, nx, hnm, h6.1, h6.2, h4', k1, k2⟩
theorem take_all {L : List PM} {u : ByteArray} (h : storeB L = true) (hus : (47 : UInt8) ∉ u.data.toList) : ∃ S, takeAll (nextM L) u S0 L = some S ∧ S.word = (getM L (userK u)).getD e0 ∧ Inv (nextM L) u L S := by
  obtain ⟨hg, nx, hnm, _, h2, _, k1, k2⟩ := store_facts h
  rw [← hnm]
  have hI : Inv nx u [] S0 := ⟨fun name f' hf => (by cases hf), fun name w _ hm => (by cases hm), rfl⟩
  obtain ⟨m1, m2⟩ := all_step h2 hg.2.2 hus L [] S0 rfl hI
  have hs : (takeAll nx u S0 L).isSome = true := m1.2 fun q hq ho => by
    rcases k2 q hq with e | ⟨u2, ho2, hz⟩
    · rw [owner_v e] at ho; cases ho
    · rw [ho] at ho2
      cases ho2
      exact ((lay_iff h2 hg.2.2 hus).1 (k1 u hz)).1 q hq ho
  obtain ⟨S, hS⟩ := Option.isSome_iff_exists.1 hs
  exact ⟨S, hS, all_word hus hg.2.2 hS, m2 S hS⟩
theorem word_some {L : List PM} (h : storeB L = true) {u v : ByteArray} (hus : (47 : UInt8) ∉ u.data.toList) (hv : getM L (userK u) = some v) : v.toList ≠ [] := by
  obtain ⟨hg, nx, hnm, _, h2, _, k1, k2⟩ := store_facts h
  have hm := (getM_mem hg.2.2).1 hv
  have h3 := ((lay_iff h2 hg.2.2 hus).1 (k1 u ⟨_, hm, rfl⟩)).1 _ hm (by unfold ownerM; rw [parts_user hus]; rfl)
  have h4 : shortB v = true := by
    simp only [parts_user hus] at h3
    exact h3.2
  intro e
  rw [ByteArray.toList_eq] at e
  have h5 : v = ⟨#[]⟩ := bs_inj e
  rw [h5] at h4
  exact absurd h4 (by decide)
end Go.Proofs.YtcpbajbbjpkglaaGreatDoor
namespace Go.Proofs.YtcpbajbbjpkglaaGreatDoor
open Go.ChangeShapes Go.WideShapes Go.ChangeAt Go.RowKit Go.Deep Go.Lib
set_option linter.unusedVariables false
set_option linter.unusedSimpArgs false
set_option maxRecDepth 100000

theorem src_1S {w : World} {s : ByteArray} {B ty : Nat} (hB : B = w.heap.size) : Src (w.alloc (.cells #[.string s] ty)) (some ⟨B, 0, none⟩) (cellsS [s]) := by
  have hb : Box (w.alloc (.cells #[.string s] ty)) B [.string s] := Box.new hB
  refine .inr ⟨B, 0, rfl, fun j hj => ?_⟩
  have hj4 : j < 1 := hj
  rw [Nat.zero_add]
  match j, hj4 with
  | 0, _ => exact (hb 0 _ rfl).1
def lackM (wd : ByteArray) (fs : List FM) (Ns : List ByteArray) : Int := if wd.toList = [] then 15 else if Ns.all (fun s => (lookF s fs).isSome) = false then 16 else 0
set_option maxHeartbeats 2000000 in
theorem lacksI (w : World) (M : Nat) (a : Option Addr) (n c : Nat) (nx : Int) (u : ByteArray) (S : SM) (k0 : Nat) (hS : StAt w M a n c nx u S k0) (hu : u.size ≤ 1000) (b : Option Addr) (m d : Nat) (Ns : List ByteArray) (hN : Ns.length = m) (hm : m ≤ 100) (hz : ∀ s ∈ Ns, s.size ≤ 1048576) (h2 : Src w b (cellsS Ns)) (Q : Int) (HQ : Hid (lackM S.word S.fs Ns = Q)) :
    Calls Tryz.prog 44 #[.pointer (some ⟨M + 1, 0, none⟩), .slice b m d] w fun e w' => e = .returned (.int .i64 Q) ∧ Below w.heap.size w w' := by
  obtain ⟨va, X, hD, hV, _⟩ := hS
  obtain ⟨e4a, _⟩ := hD.1 4 _ rfl
  obtain ⟨wd, hwd⟩ : ∃ t, S.word = t := ⟨_, rfl⟩
  have e4 : w.cell? ⟨M + 1, 4, none⟩ = some (.string wd) := by rw [← hwd]; exact e4a
  rw [hwd] at HQ
  clear e4a
  by_cases hw : wd.toList = []
  · have HZ : Hid (15 = Q) := by show _ = _; rw [← HQ.out]; unfold lackM; rw [if_pos hw]
    clear hD hV h2 hz
    go_enter Tryz.func44, Tryz.ntmps44
    go_wp2_with fail
    go_ret
    exact ⟨ret_int HZ.out, Below.refl _ _⟩
  have hwb : (wd.toList == []) = false := beq_eq_false_iff_ne.2 hw
  obtain ⟨nb, hnb⟩ : ∃ x, Ns.all (fun s => (lookF s S.fs).isSome) = x := ⟨_, rfl⟩
  have HQ1 : Hid ((if nb = false then 16 else 0) = Q) := by show _ = _; rw [← HQ.out]; unfold lackM; rw [if_neg hw, hnb]
  have HNB : Hid ((Ns.drop 0).all (fun s => (lookF s S.fs).isSome) = nb) := hnb
  have HD : Hid (DeskAt w M ⟨a, n, c, va, S.aside, nx, u, S.word, X⟩) := hD
  have HV : Hid (View u X S.fs) := hV
  have HN : Hid (Ns.length = m) := hN
  have HT : Hid (Src w b (cellsS Ns)) := h2
  have HY : Hid (∀ s ∈ Ns, s.size ≤ 1048576) := hz
  clear hnb hD hV hN h2 hz HQ hwd
  go_enter Tryz.func44, Tryz.ntmps44
  go_wp2_with fail
  go_loopw [14] (fun iv wr => ∃ j : Nat, j ≤ m ∧ iv = .int .i64 (j : Int) ∧ Hid ((Ns.drop j).all (fun s => (lookF s S.fs).isSome) = nb) ∧ Hid (Below w.heap.size w wr)) (fun i _ => m - (intOf i).toNat)
  case atStart => exact ⟨0, by omega, rfl, HNB.out, Below.refl _ _⟩
  case round =>
    obtain ⟨j, hj, rfl, hall, hbr⟩ := hrel
    by_cases hlt : j < m
    · have hltj : (j : Int) < (m : Int) := by omega
      have hkN : j < Ns.length := by rw [HN.out]; exact hlt
      obtain ⟨b', o', t, rfl, c1, hy⟩ := srcS (HT.out.below hbr.out) hkN
      have hts : t.size ≤ 1048576 := HY.out t (by rw [← hy.out]; exact mem_getD Ns e0 j hkN)
      have HA := hall.out
      rw [all_dx e0 _ Ns j hkN, hy.out] at HA
      obtain ⟨st, hst⟩ : ∃ x, (lookF t S.fs).isSome = x := ⟨_, rfl⟩
      rw [hst] at HA
      have HA3 : Hid ((st && (Ns.drop (j + 1)).all (fun s => (lookF s S.fs).isSome)) = nb) := HA
      have CH := hasI t wr M _ hts (by show u.size ≤ 1048576; omega) (HD.out.later hbr.out) st (HV.out.some t st hst)
      clear HA hall hst
      go_wp2_with fail
      refine CH.mono ?_
      rintro e w5 ⟨rfl, hb5⟩
      have B5 : Hid (Below w.heap.size w w5) := hbr.out.trans (hb5.mono hbr.out.size)
      clear hb5 CH
      cases st with
      | false =>
        have HZ : Hid (16 = Q) := by show _ = _; rw [← HQ1.out, ← HA3.out]; rfl
        go_wp2_with fail
        go_ret
        exact ⟨ret_int HZ.out, B5.out⟩
      | true =>
        have HA4 : Hid ((Ns.drop (j + 1)).all (fun s => (lookF s S.fs).isSome) = nb) := HA3
        go_wp2_with fail
        exact ⟨⟨j + 1, by omega, by go_num, HA4.out, B5.out⟩, by simp [intOf]; omega⟩
    · obtain rfl : j = m := by omega
      have hltj : ¬ (j : Int) < (j : Int) := by omega
      obtain rfl : true = nb := by rw [← hall.out, all_de _ _ _ (by rw [HN.out]; exact Nat.le_refl _)]
      have HZ : Hid (0 = Q) := by show _ = _; rw [← HQ1.out]; rfl
      clear hall
      go_wp2_with fail
      go_ret
      exact ⟨ret_int HZ.out, hbr.out⟩
theorem deskWithI (a : Option Addr) (n c : Nat) (L : List PM) (u : ByteArray) (w : World) (hL : L.length = n) (h : Src w a (cellsP L)) (hG : Gl w) (h8 : 8 ≤ w.heap.size) (hst : storeB L = true) (hus : (47 : UInt8) ∉ u.data.toList) (hu : u.size ≤ 1000) :
    Calls Tryz.prog 43 #[.slice a n c, .string u] w fun e w' => ∃ M S, e = .returned (.pointer (some ⟨M + 1, 0, none⟩)) ∧ takeAll (nextM L) u S0 L = some S ∧ StAt w' M a n c (nextM L) u S n ∧ w.heap.size ≤ M ∧ Below w.heap.size w w' := by
  obtain ⟨hg, nx0, hnm, n1, n2, hin, _, _⟩ := store_facts hst
  obtain ⟨S, hS, _⟩ := take_all hst hus
  have HS : Hid (takeAll (nextM L) u S0 L = some S) := hS
  have CD := deskI a n c L w hL hg h hG h8 true hin
  have HF : Hid (GoodL L ∧ L.length = n ∧ Src w a (cellsP L) ∧ Gl w ∧ inB (numB ((getM L vK).getD e0).data.toList) 1 10000 = true) := ⟨hg, hL, h, hG, hin⟩
  clear hg hL h hG hin hst hS hnm
  go_enter Tryz.func43, Tryz.ntmps43
  go_wp2_with fail
  refine CD.mono ?_
  rintro e w1 ⟨nx, M, rfl, hnp, hM, hdk, hb1⟩
  obtain ⟨hnx, hnx1⟩ := in_next HF.out.2.2.2.2 hnp
  subst hnx
  have CL := layI u w1 M a n c _ _ _ _ _ _ L hdk HF.out.2.1 HF.out.1 (fun W hW => HF.out.2.2.1.below (hb1.trans (hW.mono hM))) (HF.out.2.2.2.1.below h8 hb1) (by omega) hu hnx1 _ rfl
  have B1 : Hid (Below w.heap.size w w1) := hb1
  obtain ⟨lb, hlb⟩ : ∃ x, layF (nextM L) u S0 L = x := ⟨_, rfl⟩
  rw [hlb] at CL
  clear hb1 hdk hnp CD hlb
  go_wp2_with fail
  refine CL.mono ?_
  rintro e w2 ⟨rfl, hst2, hb2⟩
  have HST : Hid (StAt w2 M a n c (nextM L) u S n) := (hst2 S HS.out).1
  have B2 : Hid (Below w.heap.size w w2) := B1.out.trans (hb2.mono hM)
  clear hst2 hb2 CL
  go_wp2_with fail
  go_ret
  exact ⟨M, S, rfl, HS.out, HST.out, hM, B2.out⟩
def passG (o : Option ByteArray) : ByteArray × Int := match o with
  | some v => (v, 0)
  | none => (⟨#[]⟩, 15)
def passM (L : List PM) (u : ByteArray) : ByteArray × Int := if askM L [u] = 0 then passG (getM L (userK u)) else (⟨#[]⟩, askM L [u])
theorem ask_zero {L : List PM} {u : ByteArray} (h : askM L [u] = 0) : storeB L = true ∧ shortB u = true := by
  unfold askM at h
  split at h
  · cases h
  · split at h
    · cases h
    · rename_i h1
      split at h
      · cases h
      · rename_i h2
        refine ⟨by simpa using h1, ?_⟩
        simpa using h2
theorem ret_word {a b : ByteArray} {k l : Int} (h1 : a = b) (h2 : k = l) : Ending.returned (.tuple #[.string a, .int .i64 k]) = .returned (.tuple #[.string b, .int .i64 l]) := by rw [h1, h2]
theorem short_size {u : ByteArray} (h : shortB u = true) : u.size ≤ 8 := by
  unfold shortB at h
  rw [Bool.and_eq_true, decide_eq_true_eq] at h
  exact h.2
set_option maxHeartbeats 2000000 in
theorem specUserPass (a : Option Addr) (n c : Nat) (L : List PM) (u : ByteArray) (w : World) (hL : L.length = n) (hn : n ≤ 1048576) (hs : ∀ x ∈ L, x.1.size ≤ 1048576 ∧ x.2.size ≤ 1048576) (h : Src w a (cellsP L)) (hu : u.size ≤ 1048576) (T : ByteArray) (Q : Int) (HQ : Hid (passM L u = (T, Q))) :
    Calls Tryz.prog 12 #[.slice a n c, .string u] w fun e w' => e = .returned (.tuple #[.string T, .int .i64 Q]) ∧ Below w.heap.size w w' := by
  have HLN : Hid (L.length = n) := hL
  have HS : Hid (Src w a (cellsP L)) := h
  have AL : Hid (Below w.heap.size w (w.alloc (.cells #[.string u] 9))) := (Below.refl _ _).alloc (Nat.le_refl _) _
  obtain ⟨q, hq⟩ : ∃ q, askM L [u] = q := ⟨_, rfl⟩
  have HQQ : Hid (askM L [u] = q) := hq
  have HQ1 : Hid ((if q = 0 then passG (getM L (userK u)) else (⟨#[]⟩, q)) = (T, Q)) := by show _ = _; rw [← HQ.out]; unfold passM; rw [hq]
  have CA := l07AskS a n c L (some ⟨w.heap.size, 0, none⟩) 1 1 [u] (w.alloc (.cells #[.string u] 9)) hL hn hs (HS.out.below AL.out) rfl (by omega) (fun s hs => by rw [List.mem_singleton.1 hs]; exact hu) (src_1S rfl) q hq
  clear hL h hs hq HQ
  by_cases h1 : 4096 < n
  · have h1i : (4096 : Int) < (n : Int) := by omega
    obtain ⟨rfl, rfl⟩ : (⟨#[]⟩ : ByteArray) = T ∧ 2 = Q := by
      have h9 : q = 2 := by rw [← HQQ.out]; unfold askM; rw [if_pos (.inl (by rw [HLN.out]; exact h1))]
      have h7 := HQ1.out
      rw [h9, if_neg (by decide)] at h7
      cases h7
      exact ⟨rfl, rfl⟩
    go_enter Tryz.func12, Tryz.ntmps12
    go_wp2_with fail
    exact bodyPost_ret (v := .tuple #[.string ⟨#[]⟩, .int .i64 2]) (by simp [results, Tryz.results12, go_sem]) rfl ⟨rfl, Below.refl _ _⟩
  have h1i : ¬ (4096 : Int) < (n : Int) := by omega
  by_cases h2 : 65536 < u.size
  · have h2i : (65536 : Int) < (u.size : Int) := by omega
    obtain ⟨rfl, rfl⟩ : (⟨#[]⟩ : ByteArray) = T ∧ 2 = Q := by
      have h9 : q = 2 := by
        rw [← HQQ.out]
        unfold askM
        rw [if_pos (.inr (by show (smallT u && true) = false; rw [show smallT u = false from decide_eq_false (by omega)]; rfl))]
      have h7 := HQ1.out
      rw [h9, if_neg (by decide)] at h7
      cases h7
      exact ⟨rfl, rfl⟩
    go_enter Tryz.func12, Tryz.ntmps12
    go_wp2_with fail
    exact bodyPost_ret (v := .tuple #[.string ⟨#[]⟩, .int .i64 2]) (by simp [results, Tryz.results12, go_sem]) rfl ⟨rfl, Below.refl _ _⟩
  have h2i : ¬ (65536 : Int) < (u.size : Int) := by omega
  by_cases hq0 : q = 0
  · subst hq0
    obtain ⟨hst, hsh⟩ := ask_zero HQQ.out
    have hgl := (store_facts hst).1
    have HQ2 : Hid (passG (getM L (userK u)) = (T, Q)) := by have h9 := HQ1.out; rw [if_pos rfl] at h9; exact h9
    have CG := fun W (hW : Below w.heap.size w W) => l01GetM a n c L (userK u) W HLN.out hgl (HS.out.below hW)
    obtain ⟨tv, htv⟩ : ∃ t, (getM L (userK u)).getD e0 = t := ⟨_, rfl⟩
    obtain ⟨tb, htb⟩ : ∃ t, (getM L (userK u)).isSome = t := ⟨_, rfl⟩
    simp only [htv, htb] at CG
    have HGT : Hid ((getM L (userK u)).getD e0 = tv ∧ (getM L (userK u)).isSome = tb) := ⟨htv, htb⟩
    clear hst hsh hgl HQ1 htv htb
    go_enter Tryz.func12, Tryz.ntmps12
    go_wp2_with fail
    refine CA.mono ?_
    rintro e w3 ⟨rfl, hb3⟩
    have B3 : Hid (Below w.heap.size w w3) := AL.out.trans (hb3.mono AL.out.size)
    clear hb3 CA
    go_wp2_with fail
    refine (l07UserS u _ (by omega)).mono ?_
    rintro e w4 ⟨rfl, hw4⟩
    obtain rfl := hw4
    obtain ⟨KU, hKU⟩ : ∃ t, userK u = t := ⟨_, rfl⟩
    simp only [hKU] at CG ⊢
    go_wp2_with fail
    refine (CG _ B3.out).mono ?_
    rintro e w5 ⟨rfl, hw5⟩
    obtain rfl := hw5
    cases tb with
    | false =>
      obtain ⟨rfl, rfl⟩ : (⟨#[]⟩ : ByteArray) = T ∧ 15 = Q := by
        have h9 := HQ2.out
        have h8 : getM L (userK u) = none := by
          cases hh : getM L (userK u) with
          | none => rfl
          | some v => have h7 := HGT.out.2; rw [hh] at h7; cases h7
        rw [h8] at h9
        cases h9
        exact ⟨rfl, rfl⟩
      go_wp2_with fail
      exact bodyPost_ret (v := .tuple #[.string ⟨#[]⟩, .int .i64 15]) (by simp [results, Tryz.results12, go_sem]) rfl ⟨rfl, B3.out⟩
    | true =>
      obtain ⟨rfl, rfl⟩ : tv = T ∧ 0 = Q := by
        have h9 := HQ2.out
        obtain ⟨v, hv⟩ := Option.isSome_iff_exists.1 HGT.out.2
        have h8 := HGT.out.1
        rw [hv] at h9 h8
        cases h9
        exact ⟨h8.symm, rfl⟩
      go_wp2_with fail
      exact bodyPost_ret (v := .tuple #[.string tv, .int .i64 0]) (by simp [results, Tryz.results12, go_sem]) rfl ⟨rfl, B3.out⟩
  · obtain ⟨rfl, rfl⟩ : (⟨#[]⟩ : ByteArray) = T ∧ q = Q := by
      have h9 := HQ1.out
      rw [if_neg hq0] at h9
      cases h9
      exact ⟨rfl, rfl⟩
    have hqi : (q != 0) = true := by simpa using hq0
    go_enter Tryz.func12, Tryz.ntmps12
    go_wp2_with fail
    refine CA.mono ?_
    rintro e w3 ⟨rfl, hb3⟩
    have B3 : Hid (Below w.heap.size w w3) := AL.out.trans (hb3.mono AL.out.size)
    clear hb3 CA
    go_wp2_with fail
    exact bodyPost_ret (v := .tuple #[.string ⟨#[]⟩, .int .i64 q]) (by simp [results, Tryz.results12, go_sem]) rfl ⟨rfl, B3.out⟩
set_option maxHeartbeats 2000000 in
theorem implUserPass (a : Option Addr) (n c : Nat) (L : List PM) (u : ByteArray) (w : World) (hL : L.length = n) (hn : n ≤ 1048576) (hs : ∀ x ∈ L, x.1.size ≤ 1048576 ∧ x.2.size ≤ 1048576) (h : Src w a (cellsP L)) (hu : u.size ≤ 1048576) (hG : Gl w) (h8 : 8 ≤ w.heap.size) (T : ByteArray) (Q : Int) (HQ : Hid (passM L u = (T, Q))) :
    Calls Tryz.prog 13 #[.slice a n c, .string u] w fun e w' => e = .returned (.tuple #[.string T, .int .i64 Q]) ∧ Below w.heap.size w w' := by
  have HLN : Hid (L.length = n) := hL
  have HS : Hid (Src w a (cellsP L)) := h
  have HG : Hid (Gl w) := hG
  have AL : Hid (Below w.heap.size w (w.alloc (.cells #[.string u] 9))) := (Below.refl _ _).alloc (Nat.le_refl _) _
  obtain ⟨q, hq⟩ : ∃ q, askM L [u] = q := ⟨_, rfl⟩
  have HQQ : Hid (askM L [u] = q) := hq
  have HQ1 : Hid ((if q = 0 then passG (getM L (userK u)) else (⟨#[]⟩, q)) = (T, Q)) := by show _ = _; rw [← HQ.out]; unfold passM; rw [hq]
  have CA := mailFaultI a n c L (some ⟨w.heap.size, 0, none⟩) 1 1 [u] (w.alloc (.cells #[.string u] 9)) hL hn hs (HS.out.below AL.out) rfl (by omega) (fun s hs => by rw [List.mem_singleton.1 hs]; exact hu) (src_1S rfl) (hG.below h8 AL.out) (by have := AL.out.size; omega) q hq
  clear hL h hs hq HQ hG
  by_cases hq0 : q = 0
  · subst hq0
    obtain ⟨hst, hsh⟩ := ask_zero HQQ.out
    have hus := word_slash hsh
    have hu8 := short_size hsh
    have HQ2 : Hid (passG (getM L (userK u)) = (T, Q)) := by have h9 := HQ1.out; rw [if_pos rfl] at h9; exact h9
    have HW : Hid (∀ S, takeAll (nextM L) u S0 L = some S → S.word = T ∧ lackM S.word S.fs [] = Q) := fun S hS => by
      obtain ⟨S', k1, k2, _⟩ := take_all hst hus
      rw [hS] at k1
      cases k1
      have h9 := HQ2.out
      unfold lackM
      rw [k2]
      cases hv : getM L (userK u) with
      | none =>
        rw [hv] at h9
        cases h9
        have h0 : (e0 : ByteArray).toList = [] := by rw [ByteArray.toList_eq]
        exact ⟨rfl, if_pos h0⟩
      | some v =>
        rw [hv] at h9
        cases h9
        exact ⟨rfl, if_neg (word_some hst hus hv)⟩
    have CD := fun W (hW : Below w.heap.size w W) => deskWithI a n c L u W HLN.out (HS.out.below hW) (HG.out.below h8 hW) (by have := hW.size; omega) hst hus (by omega)
    clear hst hsh HQ1
    go_enter Tryz.func13, Tryz.ntmps13
    go_wp2_with fail
    refine CA.mono ?_
    rintro e w3 ⟨rfl, hb3⟩
    have B3 : Hid (Below w.heap.size w w3) := AL.out.trans (hb3.mono AL.out.size)
    clear hb3 CA
    go_wp2_with fail
    refine (CD _ B3.out).mono ?_
    rintro e w4 ⟨M, S, rfl, hS, hSt, hM, hb4⟩
    have B4 : Hid (Below w.heap.size w w4) := B3.out.trans (hb4.mono B3.out.size)
    obtain ⟨k1, k2⟩ := HW.out S hS
    have CL := fun W (hW : Below w4.heap.size w4 W) => lacksI W M a n c _ u S n (hSt.later hW) (by omega) none 0 0 [] rfl (by omega) (fun s hs => by cases hs) (.inl rfl) Q k2
    have e4 : w4.cell? ⟨M + 1, 4, none⟩ = some (.string T) := by
      obtain ⟨_, _, hD, _⟩ := hSt
      rw [← k1]
      exact (hD.1 4 _ rfl).1
    clear hb4 hS hSt k1 k2 CD hM
    go_upto_region 5 with fail
    refine wp_region_noPanic ?_
    refine wp_region_held_drew (S := fun w' => True) (by kernel_rfl) trivial (fun hHeld => ?_)
    refine tkA (i := 0) (v := .pointer (some ⟨M + 1, 0, none⟩)) ?_ hHeld ?_
    · intro w9 hSw
      go_simp
    simp only [Act.put, List.setIfInBounds_toArray, List.set_cons_zero, List.set_cons_succ]
    refine tkA (i := 1) (v := .pointer (some ⟨M + 1, 0, none⟩)) ?_ hHeld ?_
    · intro w9 hSw
      go_simp
    simp only [Act.put, List.setIfInBounds_toArray, List.set_cons_zero, List.set_cons_succ]
    refine tkA (i := 2) (v := .pointer (some ⟨M + 1, 4, none⟩)) ?_ hHeld ?_
    · intro w9 hSw
      go_simp
    simp only [Act.put, List.setIfInBounds_toArray, List.set_cons_zero, List.set_cons_succ]
    refine tkA (i := 4) (v := .pointer (some ⟨M + 1, 0, none⟩)) ?_ hHeld ?_
    · intro w9 hSw
      go_simp
    simp only [Act.put, List.setIfInBounds_toArray, List.set_cons_zero, List.set_cons_succ]
    refine wpAnyH_ready (rs := [3, 5]) (by kernel_rfl) (by simp) ?_
    refine AllReadyH.cons rfl (fun K hK => ?_) (AllReadyH.cons rfl (fun K hK => ?_) AllReadyH.nil)
    · skip
      go_simp
      refine hK _ _ trivial (fun hHeld => ?_)
      clear hK K
      refine wpAnyH_ready (rs := [5]) (by kernel_rfl) (by simp) ?_
      refine AllReadyH.cons rfl (fun K hK => ?_) AllReadyH.nil
      go_simp
      refine (CL _ ((Below.refl _ _).drew)).mono ?_
      rintro e w5 ⟨rfl, hb5⟩
      have B5 : Hid (Below w.heap.size w w5) := B4.out.drew.trans (Below.mono hb5 B4.out.size)
      have e5 : w5.cell? ⟨M + 1, 4, none⟩ = some (.string T) := cell_later (w := w4.drew) hb5 e4
      clear hb5
      dsimp only
      refine hK _ _ trivial (fun hHeld => ?_)
      clear hK K
      refine wpAnyH_ready (rs := [6]) (by kernel_rfl) (by simp) ?_
      refine AllReadyH.cons rfl (fun K hK => ?_) AllReadyH.nil
      go_simp
      refine hK _ _ trivial (fun hHeld => ?_)
      clear hK K
      refine wpAnyH_ready (rs := [7]) (by kernel_rfl) (by simp) ?_
      refine AllReadyH.cons rfl (fun K hK => ?_) AllReadyH.nil
      go_simp
      refine hK _ _ trivial (fun hHeld => ?_)
      clear hK K
      refine wpAnyH_done (by kernel_rfl) ?_ _
      refine NoPanic.normal ?_
      clear hHeld
      go_wp2_with fail
      exact bodyPost_ret (v := .tuple #[.string T, .int .i64 Q]) (by simp [results, Tryz.results13, go_sem]) rfl ⟨rfl, B5.out⟩
    · skip
      go_simp
      refine (CL _ ((Below.refl _ _).drew)).mono ?_
      rintro e w5 ⟨rfl, hb5⟩
      have B5 : Hid (Below w.heap.size w w5) := B4.out.drew.trans (Below.mono hb5 B4.out.size)
      have e5 : w5.cell? ⟨M + 1, 4, none⟩ = some (.string T) := cell_later (w := w4.drew) hb5 e4
      clear hb5
      dsimp only
      refine hK _ _ trivial (fun hHeld => ?_)
      clear hK K
      refine wpAnyH_ready (rs := [3]) (by kernel_rfl) (by simp) ?_
      refine AllReadyH.cons rfl (fun K hK => ?_) AllReadyH.nil
      go_simp
      refine hK _ _ trivial (fun hHeld => ?_)
      clear hK K
      refine wpAnyH_ready (rs := [6]) (by kernel_rfl) (by simp) ?_
      refine AllReadyH.cons rfl (fun K hK => ?_) AllReadyH.nil
      go_simp
      refine hK _ _ trivial (fun hHeld => ?_)
      clear hK K
      refine wpAnyH_ready (rs := [7]) (by kernel_rfl) (by simp) ?_
      refine AllReadyH.cons rfl (fun K hK => ?_) AllReadyH.nil
      go_simp
      refine hK _ _ trivial (fun hHeld => ?_)
      clear hK K
      refine wpAnyH_done (by kernel_rfl) ?_ _
      refine NoPanic.normal ?_
      clear hHeld
      go_wp2_with fail
      exact bodyPost_ret (v := .tuple #[.string T, .int .i64 Q]) (by simp [results, Tryz.results13, go_sem]) rfl ⟨rfl, B5.out⟩
  · obtain ⟨rfl, rfl⟩ : (⟨#[]⟩ : ByteArray) = T ∧ q = Q := by
      have h9 := HQ1.out
      rw [if_neg hq0] at h9
      cases h9
      exact ⟨rfl, rfl⟩
    have hqi : (q != 0) = true := by simpa using hq0
    go_enter Tryz.func13, Tryz.ntmps13
    go_wp2_with fail
    refine CA.mono ?_
    rintro e w3 ⟨rfl, hb3⟩
    have B3 : Hid (Below w.heap.size w w3) := AL.out.trans (hb3.mono AL.out.size)
    clear hb3 CA
    go_wp2_with fail
    exact bodyPost_ret (v := .tuple #[.string ⟨#[]⟩, .int .i64 q]) (by simp [results, Tryz.results13, go_sem]) rfl ⟨rfl, B3.out⟩
end Go.Proofs.YtcpbajbbjpkglaaGreatDoor
