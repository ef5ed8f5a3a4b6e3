/-
  Ask7 Usp Fps in one. By an AI agent.
-/
import Derived.Test.YthgbclipknfmjaaGreatDoorFr14
import Derived.Test.YthgbclipknfmjaaGreatDoorFr08
import Derived.Test.YthgbclipknfmjaaGreatDoorFr12
namespace Go.Proofs.YthgbclipknfmjaaGreatDoor
open Go.ChangeShapes Go.WideShapes Go.ChangeAt Go.RowKit Go.Deep Go.Lib
set_option linter.unusedVariables false
set_option linter.unusedSimpArgs false
set_option maxRecDepth 100000

theorem all_dx {α : Type} (d : α) (f : α → Bool) (L : List α) (k : Nat) (hk : k < L.length) : (L.drop k).all f = (f (L.getD k d) && (L.drop (k + 1)).all f) := by
  rw [List.drop_eq_getElem_cons hk, List.getD_eq_getElem?_getD, List.getElem?_eq_getElem hk]
  rfl
theorem all_de {α : Type} (f : α → Bool) (L : List α) (k : Nat) (hk : L.length ≤ k) : (L.drop k).all f = true := by
  rw [List.drop_of_length_le hk]
  rfl
abbrev smallT (s : ByteArray) : Bool := decide (s.size ≤ 65536)
def askM (L : List PM) (Ns : List ByteArray) : Int := if 4096 < L.length ∨ Ns.all smallT = false then 2 else if storeB L = false then 1 else if Ns.all shortB = false then 17 else 0
theorem ask_small {L : List PM} {Ns : List ByteArray} (h : ¬ 4096 < L.length) : askM L Ns = if Ns.all smallT = false then 2 else if storeB L = false then 1 else if Ns.all shortB = false then 17 else 0 := by
  unfold askM
  by_cases h9 : Ns.all smallT = false
  · rw [if_pos (.inr h9), if_pos h9]
  · have h8 : ¬ (4096 < L.length ∨ Ns.all smallT = false) := fun h7 => h7.elim h h9
    rw [if_neg h8, if_neg h9]

set_option maxHeartbeats 1000000 in
theorem allShortI (b : Option Addr) (m d : Nat) (Ns : List ByteArray) (w : World) (hN : Ns.length = m) (hm : m ≤ 100) (hz : ∀ s ∈ Ns, s.size ≤ 1048576) (h2 : Src w b (cellsS Ns)) (nb : Bool) (HNB : Hid (Ns.all shortB = nb)) :
    Calls Tryz.prog 78 #[.slice b m d] w fun e w' => e = .returned (.bool nb) ∧ Below w.heap.size w w' := by
  have HN : Hid (Ns.length = m) := hN
  have HT : Hid (Src w b (cellsS Ns)) := h2
  have HY : Hid (∀ s ∈ Ns, s.size ≤ 1048576) := hz
  have HB0 : Hid ((Ns.drop 0).all shortB = nb) := HNB.out
  clear hN h2 hz HNB
  go_enter Tryz.func78, Tryz.ntmps78
  go_wp2_with fail
  go_loopw [7] (fun iv wr => ∃ j : Nat, j ≤ m ∧ iv = .int .i64 (j : Int) ∧ Hid ((Ns.drop j).all shortB = nb) ∧ Hid (Below w.heap.size w wr)) (fun i _ => m - (RowKit.intOf i).toNat)
  case atStart => exact ⟨0, by omega, rfl, HB0.out, Below.refl _ _⟩
  case round =>
    obtain ⟨j, hj, rfl, hall, hbr⟩ := hrel
    by_cases hlt : j < m
    · have hltj : (j : Int) < (m : Int) := by omega
      have hkN : j < Ns.length := by rw [HN.out]; exact hlt
      obtain ⟨b', o', t, rfl, c1, hy⟩ := srcS (HT.out.below hbr.out) hkN
      have hts : t.size ≤ maxLen := by
        have := HY.out t (by rw [← hy.out]; exact mem_getD Ns e0 j hkN)
        unfold maxLen
        omega
      have HA := hall.out
      rw [all_dx e0 shortB Ns j hkN, hy.out] at HA
      obtain ⟨st, hst⟩ : ∃ x, shortB t = x := ⟨_, rfl⟩
      rw [hst] at HA
      have HA3 : Hid ((st && (Ns.drop (j + 1)).all shortB) = nb) := HA
      clear HA hall
      go_wp2_with fail
      refine (shortIs st t _ hst hts).mono ?_
      rintro e w5 ⟨rfl, hw5⟩
      obtain rfl := hw5
      cases st with
      | false =>
        obtain rfl : false = nb := HA3.out
        go_wp2_with fail
        go_ret
        exact ⟨rfl, hbr.out⟩
      | true =>
        have HA4 : Hid ((Ns.drop (j + 1)).all shortB = nb) := HA3
        go_wp2_with fail
        exact ⟨⟨j + 1, by omega, by go_num, HA4.out, hbr.out⟩, by simp [RowKit.intOf]; omega⟩
    · obtain rfl : j = m := by omega
      have hltj : ¬ (j : Int) < (j : Int) := by omega
      obtain rfl : true = nb := by rw [← hall.out, all_de _ _ _ (by rw [HN.out]; exact Nat.le_refl _)]
      clear hall
      go_wp2_with fail
      go_ret
      exact ⟨rfl, hbr.out⟩

set_option maxHeartbeats 4000000 in
theorem l07AskS (a : Option Addr) (n c : Nat) (L : List PM) (b : Option Addr) (m d : Nat) (Ns : List ByteArray) (w : World) (hL : L.length = n) (hn : n ≤ 1048576) (hs : ∀ x ∈ L, x.1.size ≤ 1048576 ∧ x.2.size ≤ 1048576) (h : Src w a (cellsP L)) (hN : Ns.length = m) (hm : m ≤ 100) (hz : ∀ s ∈ Ns, s.size ≤ 1048576) (h2 : Src w b (cellsS Ns)) (Q : Int) (HQ : Hid (askM L Ns = Q)) :
    Calls Tryz.prog 48 #[.slice a n c, .slice b m d] w fun e w' => e = .returned (.int .i64 Q) ∧ Below w.heap.size w w' := by
  have HL : Hid (L.length = n) := hL
  have HS : Hid (Src w a (cellsP L)) := h
  have HZ : Hid (∀ x ∈ L, x.1.size ≤ 1048576 ∧ x.2.size ≤ 1048576) := hs
  have HN : Hid (Ns.length = m) := hN
  have HT : Hid (Src w b (cellsS Ns)) := h2
  have HY : Hid (∀ s ∈ Ns, s.size ≤ 1048576) := hz

  clear hL h hs hN h2 hz
  by_cases hbig : 4096 < n
  · have HZQ : Hid (2 = Q) := by show _ = _; rw [← HQ.out]; unfold askM; rw [if_pos (.inl (by rw [HL.out]; exact hbig))]
    have hbi : (4096 : Int) < (n : Int) := by omega
    go_enter Tryz.func48, Tryz.ntmps48
    go_wp2_with fail
    go_ret
    exact ⟨ret_int HZQ.out, Below.refl _ _⟩
  have hbi : ¬ (4096 : Int) < (n : Int) := by omega
  have HQ1 : Hid ((if Ns.all smallT = false then 2 else if storeB L = false then 1 else if Ns.all shortB = false then 17 else 0) = Q) := by
    show _ = _
    rw [← HQ.out, ask_small (by rw [HL.out]; exact hbig)]
  clear HQ
  obtain ⟨sb, hsb⟩ : ∃ x, storeB L = x := ⟨_, rfl⟩
  have HSB : Hid (storeB L = sb) := hsb
  rw [hsb] at HQ1
  clear hsb
  obtain ⟨tb, htb⟩ : ∃ x, Ns.all smallT = x := ⟨_, rfl⟩
  obtain ⟨nb, hnb⟩ : ∃ x, Ns.all shortB = x := ⟨_, rfl⟩
  rw [htb, hnb] at HQ1
  have HTB : Hid ((Ns.drop 0).all smallT = tb) := htb
  have HNB : Hid ((Ns.drop 0).all shortB = nb) := hnb
  clear htb hnb
  go_enter Tryz.func48, Tryz.ntmps48
  go_wp2_with fail
  go_loopw [5] (fun iv wr => ∃ k : Nat, k ≤ m ∧ iv = .int .i64 (k : Int) ∧ Hid ((Ns.drop k).all smallT = tb) ∧ Hid (Below w.heap.size w wr)) (fun i _ => m - (RowKit.intOf i).toNat)
  case atStart => exact ⟨0, by omega, rfl, HTB.out, Below.refl _ _⟩
  case round =>
    obtain ⟨k, hk, rfl, hall, hbr⟩ := hrel
    by_cases hlt : k < m
    · have hlti : (k : Int) < (m : Int) := by omega
      have hkN : k < Ns.length := by rw [HN.out]; exact hlt
      obtain ⟨b', o', t, rfl, c1, hy⟩ := srcS (HT.out.below hbr.out) hkN
      have hts : t.size ≤ 1048576 := HY.out t (by rw [← hy.out]; exact mem_getD Ns e0 k hkN)
      have HA := hall.out
      rw [all_dx e0 smallT Ns k hkN, hy.out] at HA
      by_cases hbt : 65536 < t.size
      · have hbti : (65536 : Int) < (t.size : Int) := by omega
        rw [show smallT t = false from decide_eq_false (by omega), Bool.false_and] at HA
        have HZQ : Hid (2 = Q) := by show _ = _; rw [← HQ1.out, ← HA]; rfl
        clear HA hall
        go_wp2_with fail
        go_ret
        exact ⟨ret_int HZQ.out, hbr.out⟩
      · have hbti : ¬ (65536 : Int) < (t.size : Int) := by omega
        rw [show smallT t = true from decide_eq_true (by omega), Bool.true_and] at HA
        have HA2 : Hid ((Ns.drop (k + 1)).all smallT = tb) := HA
        clear HA hall
        go_wp2_with fail
        exact ⟨⟨k + 1, by omega, by go_num, HA2.out, hbr.out⟩, by simp [RowKit.intOf]; omega⟩
    · obtain rfl : k = m := by omega
      have hlti : ¬ (k : Int) < (k : Int) := by omega
      obtain rfl : true = tb := by rw [← hall.out, all_de _ _ _ (by rw [HN.out]; exact Nat.le_refl _)]
      have HQ2 : Hid ((if sb = false then 1 else if nb = false then 17 else 0) = Q) := by show _ = _; rw [← HQ1.out]; rfl
      clear hall HTB HQ1
      go_wp2_with fail
      refine (specMailStoreOK _ n c L _ HL.out hn HZ.out (HS.out.below hbr.out) sb HSB).mono ?_
      rintro e w3 ⟨rfl, hb3⟩
      have B3 : Hid (Below w.heap.size w w3) := hbr.out.trans (hb3.mono hbr.out.size)
      clear hb3
      cases sb with
      | false =>
        have HZQ : Hid (1 = Q) := by show _ = _; rw [← HQ2.out]; rfl
        go_wp2_with fail
        go_ret
        exact ⟨ret_int HZQ.out, B3.out⟩
      | true =>
        have HQ3 : Hid ((if nb = false then 17 else 0) = Q) := by show _ = _; rw [← HQ2.out]; rfl
        clear hbr
        go_wp2_with fail
        go_loopw [6] (fun iv wr => ∃ j : Nat, j ≤ k ∧ iv = .int .i64 (j : Int) ∧ Hid ((Ns.drop j).all shortB = nb) ∧ Hid (Below w.heap.size w wr)) (fun i _ => k - (RowKit.intOf i).toNat)
        case atStart => exact ⟨0, by omega, rfl, HNB.out, B3.out⟩
        case round =>
          obtain ⟨j, hj, rfl, hall, hbr⟩ := hrel
          by_cases hlt : j < k
          · have hltj : (j : Int) < (k : Int) := by omega
            have hkN : j < Ns.length := by rw [HN.out]; exact hlt
            obtain ⟨b', o', t, rfl, c1, hy⟩ := srcS (HT.out.below hbr.out) hkN
            have hts : t.size ≤ maxLen := by
              have := HY.out t (by rw [← hy.out]; exact mem_getD Ns e0 j hkN)
              unfold maxLen
              omega
            have HA := hall.out
            rw [all_dx e0 shortB Ns j hkN, hy.out] at HA
            obtain ⟨st, hst⟩ : ∃ x, shortB t = x := ⟨_, rfl⟩
            rw [hst] at HA
            have HA3 : Hid ((st && (Ns.drop (j + 1)).all shortB) = nb) := HA
            clear HA hall
            go_wp2_with fail
            refine (l04Is st t _ hst hts).mono ?_
            rintro e w5 ⟨rfl, hw5⟩
            obtain rfl := hw5
            cases st with
            | false =>
              have HZQ : Hid (17 = Q) := by show _ = _; rw [← HQ3.out, ← HA3.out]; rfl
              go_wp2_with fail
              go_ret
              exact ⟨ret_int HZQ.out, hbr.out⟩
            | true =>
              have HA4 : Hid ((Ns.drop (j + 1)).all shortB = nb) := HA3
              go_wp2_with fail
              exact ⟨⟨j + 1, by omega, by go_num, HA4.out, hbr.out⟩, by simp [RowKit.intOf]; omega⟩
          · obtain rfl : j = k := by omega
            have hltj : ¬ (j : Int) < (j : Int) := by omega
            obtain rfl : true = nb := by rw [← hall.out, all_de _ _ _ (by rw [HN.out]; exact Nat.le_refl _)]
            have HZQ : Hid (0 = Q) := by show _ = _; rw [← HQ3.out]; rfl
            clear hall
            go_wp2_with fail
            go_ret
            exact ⟨ret_int HZQ.out, hbr.out⟩

set_option maxHeartbeats 4000000 in
theorem mailFaultI (a : Option Addr) (n c : Nat) (L : List PM) (b : Option Addr) (m d : Nat) (Ns : List ByteArray) (w : World) (hL : L.length = n) (hn : n ≤ 1048576) (hs : ∀ x ∈ L, x.1.size ≤ 1048576 ∧ x.2.size ≤ 1048576) (h : Src w a (cellsP L)) (hN : Ns.length = m) (hm : m ≤ 100) (hz : ∀ s ∈ Ns, s.size ≤ 1048576) (h2 : Src w b (cellsS Ns)) (hG : Gl w) (h8 : 8 ≤ w.heap.size) (Q : Int) (HQ : Hid (askM L Ns = Q)) :
    Calls Tryz.prog 36 #[.slice a n c, .slice b m d] w fun e w' => e = .returned (.int .i64 Q) ∧ Below w.heap.size w w' := by
  have HL : Hid (L.length = n) := hL
  have HS : Hid (Src w a (cellsP L)) := h
  have HZ : Hid (∀ x ∈ L, x.1.size ≤ 1048576 ∧ x.2.size ≤ 1048576) := hs
  have HN : Hid (Ns.length = m) := hN
  have HT : Hid (Src w b (cellsS Ns)) := h2
  have HY : Hid (∀ s ∈ Ns, s.size ≤ 1048576) := hz
  have HG : Hid (Gl w) := hG
  clear hL h hs hN h2 hz hG
  by_cases hbig : 4096 < n
  · have HZQ : Hid (2 = Q) := by show _ = _; rw [← HQ.out]; unfold askM; rw [if_pos (.inl (by rw [HL.out]; exact hbig))]
    have hbi : (4096 : Int) < (n : Int) := by omega
    go_enter Tryz.func36, Tryz.ntmps36
    go_wp2_with fail
    go_ret
    exact ⟨ret_int HZQ.out, Below.refl _ _⟩
  have hbi : ¬ (4096 : Int) < (n : Int) := by omega
  have HQ1 : Hid ((if Ns.all smallT = false then 2 else if storeB L = false then 1 else if Ns.all shortB = false then 17 else 0) = Q) := by
    show _ = _
    rw [← HQ.out, ask_small (by rw [HL.out]; exact hbig)]
  clear HQ
  obtain ⟨sb, hsb⟩ : ∃ x, storeB L = x := ⟨_, rfl⟩
  have HSB : Hid (storeB L = sb) := hsb
  rw [hsb] at HQ1
  clear hsb
  obtain ⟨tb, htb⟩ : ∃ x, Ns.all smallT = x := ⟨_, rfl⟩
  obtain ⟨nb, hnb⟩ : ∃ x, Ns.all shortB = x := ⟨_, rfl⟩
  rw [htb, hnb] at HQ1
  have HTB : Hid ((Ns.drop 0).all smallT = tb) := htb
  have HNB : Hid ((Ns.drop 0).all shortB = nb) := hnb
  clear htb hnb
  go_enter Tryz.func36, Tryz.ntmps36
  go_wp2_with fail
  go_loopw [12] (fun iv wr => ∃ k : Nat, k ≤ m ∧ iv = .int .i64 (k : Int) ∧ Hid ((Ns.drop k).all smallT = tb) ∧ Hid (Below w.heap.size w wr)) (fun i _ => m - (RowKit.intOf i).toNat)
  case atStart => exact ⟨0, by omega, rfl, HTB.out, Below.refl _ _⟩
  case round =>
    obtain ⟨k, hk, rfl, hall, hbr⟩ := hrel
    by_cases hlt : k < m
    · have hlti : (k : Int) < (m : Int) := by omega
      have hkN : k < Ns.length := by rw [HN.out]; exact hlt
      obtain ⟨b', o', t, rfl, c1, hy⟩ := srcS (HT.out.below hbr.out) hkN
      have hts : t.size ≤ 1048576 := HY.out t (by rw [← hy.out]; exact mem_getD Ns e0 k hkN)
      have HA := hall.out
      rw [all_dx e0 smallT Ns k hkN, hy.out] at HA
      by_cases hbt : 65536 < t.size
      · have hbti : (65536 : Int) < (t.size : Int) := by omega
        rw [show smallT t = false from decide_eq_false (by omega), Bool.false_and] at HA
        have HZQ : Hid (2 = Q) := by show _ = _; rw [← HQ1.out, ← HA]; rfl
        clear HA hall
        go_wp2_with fail
        go_ret
        exact ⟨ret_int HZQ.out, hbr.out⟩
      · have hbti : ¬ (65536 : Int) < (t.size : Int) := by omega
        rw [show smallT t = true from decide_eq_true (by omega), Bool.true_and] at HA
        have HA2 : Hid ((Ns.drop (k + 1)).all smallT = tb) := HA
        clear HA hall
        go_wp2_with fail
        exact ⟨⟨k + 1, by omega, by go_num, HA2.out, hbr.out⟩, by simp [RowKit.intOf]; omega⟩
    · obtain rfl : k = m := by omega
      have hlti : ¬ (k : Int) < (k : Int) := by omega
      obtain rfl : true = tb := by rw [← hall.out, all_de _ _ _ (by rw [HN.out]; exact Nat.le_refl _)]
      have HQ2 : Hid ((if sb = false then 1 else if nb = false then 17 else 0) = Q) := by show _ = _; rw [← HQ1.out]; rfl
      clear hall HTB HQ1
      go_wp2_with fail
      refine (implMailStoreOK _ n c L _ HL.out hn HZ.out (HS.out.below hbr.out) (HG.out.below h8 hbr.out) (by have := hbr.out.size; omega) sb ((impl_store L).trans HSB.out)).mono ?_
      rintro e w3 ⟨rfl, hb3⟩
      have B3 : Hid (Below w.heap.size w w3) := hbr.out.trans (hb3.mono hbr.out.size)
      clear hb3
      cases sb with
      | false =>
        have HZQ : Hid (1 = Q) := by show _ = _; rw [← HQ2.out]; rfl
        go_wp2_with fail
        go_ret
        exact ⟨ret_int HZQ.out, B3.out⟩
      | true =>
        have HQ3 : Hid ((if nb = false then 17 else 0) = Q) := by show _ = _; rw [← HQ2.out]; rfl
        have CS := allShortI b k d Ns w3 HN.out hm HY.out (HT.out.below B3.out) nb HNB
        clear hbr
        go_wp2_with fail
        refine CS.mono ?_
        rintro e w5 ⟨rfl, hb5⟩
        have B5 : Hid (Below w.heap.size w w5) := B3.out.trans (hb5.mono B3.out.size)
        clear hb5 CS
        cases nb with
        | false =>
          have HZQ : Hid (17 = Q) := by show _ = _; rw [← HQ3.out]; rfl
          go_wp2_with fail
          go_ret
          exact ⟨ret_int HZQ.out, B5.out⟩
        | true =>
          have HZQ : Hid (0 = Q) := by show _ = _; rw [← HQ3.out]; rfl
          go_wp2_with fail
          go_ret
          exact ⟨ret_int HZQ.out, B5.out⟩
theorem take_word {nx : Int} {u : ByteArray} {S S' : SM} {q : PM} (hus : (47 : UInt8) ∉ u.data.toList) (h : takeM nx u S q = some S') : S'.word = if q.1 = userK u then q.2 else S.word := by
  by_cases ho : ownerM q = some u
  · unfold takeM at h
    unfold ownerM at ho
    match hG : splitL 47 q.1.data.toList, ho, h with
    | [a, b], ho, h =>
      obtain ⟨h1, h2⟩ := ite_some ho
      subst h1
      have h3 : takeP nx u S q [[117], b] = userM u S q.2 := if_pos ⟨h2, rfl⟩
      rw [h3] at h
      unfold userM at h
      obtain ⟨_, rfl⟩ := ite_some h
      rw [if_pos (by rw [(key_user hG).1, h2])]
    | [a, b, c], ho, h =>
      obtain ⟨h1, h2⟩ := ite_some ho
      have h3 : takeP nx u S q [a, b, c] = putM S (folderM nx (bs c) q.2) := if_pos ⟨h2, h1⟩
      rw [h3] at h
      rw [(put_aside h).2, if_neg fun e => by rw [e, parts_user hus] at hG; cases hG]
    | [a, b, c, d], ho, h =>
      obtain ⟨h1, h2⟩ := ite_some ho
      have h3 : takeP nx u S q [a, b, c, d] = putM S (mailM S.fs (bs c) (bs d) q.2) := if_pos ⟨h2, h1⟩
      rw [h3] at h
      rw [(put_aside h).2, if_neg fun e => by rw [e, parts_user hus] at hG; cases hG]
  · have h3 : asideM S q = some S' := (take_other ho).symm.trans h
    cases h3
    rw [if_neg fun e => ho (by unfold ownerM; rw [e, parts_user hus]; rfl)]
theorem all_word {nx : Int} {u : ByteArray} (hus : (47 : UInt8) ∉ u.data.toList) : ∀ {L : List PM} {S S' : SM}, UpL L → takeAll nx u S L = some S' → S'.word = (getM L (userK u)).getD S.word
  | [], S, S', _, h => by cases h; rfl
  | q :: L, S, S', hu, h => by
    unfold takeAll at h
    obtain ⟨S1, h1, h2⟩ := Option.bind_eq_some_iff.1 h
    obtain ⟨u1, u2⟩ := List.pairwise_cons.1 hu
    have hgm : getM (q :: L) (userK u) = if q.1 = userK u then some q.2 else getM L (userK u) := rfl
    rw [all_word hus u2 h2, take_word hus h1, hgm]
    by_cases e : q.1 = userK u
    · have h3 : getM L (userK u) = none := getM_none.2 fun x hx e9 => by
        have h9 := u1 x hx
        rw [e, e9] at h9
        exact ltK_irrefl _ h9
      rw [if_pos e, if_pos e, h3]
      rfl
    · rw [if_neg e, if_neg e]
theorem word_slash {u : ByteArray} (h : shortB u = true) : (47 : UInt8) ∉ u.data.toList := by
  unfold shortB wordB at h
  simp only [Bool.and_eq_true, decide_eq_true_eq] at h
  obtain ⟨⟨⟨⟨h1, _⟩, h2⟩, h3⟩, _⟩ := h
  match hd : u.data.toList with
  | [] => simp
  | c :: r =>
    rw [hd] at h2
    unfold okFrom at h3
    rw [hd] at h3
    rw [List.all_eq_true] at h3
    intro h9
    rcases List.mem_cons.1 h9 with h9 | h9
    · rw [← h9] at h2
      have h2 : letB (((47 : UInt8).toNat : Nat) : Int) = true := h2
      exact absurd h2 (by decide)
    · exact absurd (h3 47 (by simpa using h9)) (by decide)
/-- The facts that a right mail store gives. -/
theorem store_facts {L : List PM} (h : storeB L = true) : GoodL L ∧ ∃ nx, nx = nextM L ∧ 1 ≤ nx ∧ nx ≤ 10000 ∧ inB (numB ((getM L vK).getD e0).data.toList) 1 10000 = true ∧ (∀ u, (∃ q ∈ L, q.1 = userK u) → layF nx u S0 L = true) ∧ ∀ q ∈ L, q.1 = vK ∨ ∃ u, ownerM q = some u ∧ ∃ z ∈ L, z.1 = userK u := by
  have h2 : implB L = true := (impl_store L).trans h
  unfold implB at h2
  rw [Bool.and_eq_true, Bool.and_eq_true] at h2
  obtain ⟨h3, h4, h5⟩ := h2
  have hg := good_of h3
  cases hv : getM L vK with
  | none => rw [hv] at h4; exact absurd h4 (by decide)
  | some v0 =>
    have h4' := h4
    rw [hv, Option.getD_some] at h4
    cases hn : numB v0.data.toList with
    | none => rw [hn] at h4; cases h4
    | some nx =>
      have hnm : nx = nextM L := by unfold nextM; rw [hv]; simp [hn]
      rw [hn] at h4
      have h6 : (decide (1 ≤ nx) && decide (nx ≤ 10000)) = true := h4
      rw [Bool.and_eq_true, decide_eq_true_eq, decide_eq_true_eq] at h6
      obtain ⟨k1, k2⟩ := (known_iff hnm hg.2.2 ⟨_, (getM_mem hg.2.2).1 hv, rfl⟩).1 h5
      rw [hv] at h4'
      exact ⟨hg, nx, hnm, h6.1, h6.2, h4', k1, k2⟩
theorem take_all {L : List PM} {u : ByteArray} (h : storeB L = true) (hus : (47 : UInt8) ∉ u.data.toList) : ∃ S, takeAll (nextM L) u S0 L = some S ∧ S.word = (getM L (userK u)).getD e0 ∧ Inv (nextM L) u L S := by
  obtain ⟨hg, nx, hnm, _, h2, _, k1, k2⟩ := store_facts h
  rw [← hnm]
  have hI : Inv nx u [] S0 := ⟨fun name f' hf => (by cases hf), fun name w _ hm => (by cases hm), rfl⟩
  obtain ⟨m1, m2⟩ := all_step h2 hg.2.2 hus L [] S0 rfl hI
  have hs : (takeAll nx u S0 L).isSome = true := m1.2 fun q hq ho => by
    rcases k2 q hq with e | ⟨u2, ho2, hz⟩
    · rw [owner_v e] at ho; cases ho
    · rw [ho] at ho2
      cases ho2
      exact ((lay_iff h2 hg.2.2 hus).1 (k1 u hz)).1 q hq ho
  obtain ⟨S, hS⟩ := Option.isSome_iff_exists.1 hs
  exact ⟨S, hS, all_word hus hg.2.2 hS, m2 S hS⟩
theorem word_some {L : List PM} (h : storeB L = true) {u v : ByteArray} (hus : (47 : UInt8) ∉ u.data.toList) (hv : getM L (userK u) = some v) : v.toList ≠ [] := by
  obtain ⟨hg, nx, hnm, _, h2, _, k1, k2⟩ := store_facts h
  have hm := (getM_mem hg.2.2).1 hv
  have h3 := ((lay_iff h2 hg.2.2 hus).1 (k1 u ⟨_, hm, rfl⟩)).1 _ hm (by unfold ownerM; rw [parts_user hus]; rfl)
  have h4 : shortB v = true := by
    simp only [parts_user hus] at h3
    exact h3.2
  intro e
  rw [ByteArray.toList_eq] at e
  have h5 : v = ⟨#[]⟩ := bs_inj e
  rw [h5] at h4
  exact absurd h4 (by decide)
abbrev mailK (u f : ByteArray) (n : Int) : ByteArray := bs (109 :: 47 :: (u.data.toList ++ 47 :: (f.data.toList ++ 47 :: d3 n.toNat)))
def mailV (m : MMl) : ByteArray := bs (itoa m.2.1) ++ m.2.2
def mailP (u f : ByteArray) (m : MMl) : PM := (mailK u f m.1, mailV m)
def fPairs (u : ByteArray) (f : FM) : List PM := (folderK u f.name, metaT f.val f.next) :: f.mails.map (mailP u f.name)
/-- A folder whose numbers are small. -/
def FitF (f : FM) : Prop := 0 ≤ f.val ∧ f.val ≤ 10000 ∧ 0 ≤ f.next ∧ f.next ≤ 10000 ∧ f.name.size ≤ 1000 ∧ ∀ m ∈ f.mails, 0 ≤ m.1 ∧ m.1 < 1000 ∧ 0 ≤ m.2.1 ∧ m.2.1 ≤ 3 ∧ m.2.2.size ≤ 1000
theorem own_lit {w : World} {base t s n B : Nat} {cs : Array Value} {xs : List Value} (hB : B = w.heap.size) (hb : base ≤ w.heap.size) (hc : cs.toList = xs) (hl : xs.length = n * s) (hm : n ≤ 65536) : (w.alloc (.cells cs t)).ownsRow base t s (.slice (some ⟨B, 0, none⟩) n n) n xs := by
  subst hB
  have hsz : cs.size = n * s := by rw [← Array.length_toList, hc, hl]
  refine ⟨hl, .inr ⟨w.heap.size, n, cs, rfl, hb, heap_alloc_new _ _, Nat.le_refl _, by unfold maxLen; omega, hsz, ?_⟩⟩
  rw [hc, List.take_of_length_le (by omega)]
theorem itoaI (n : Int) (h0 : 0 ≤ n) (h1 : n ≤ 10000) (w : World) (hg : Gl w) : Calls Tryz.prog 82 #[.int .i64 n] w fun e w' => e = .returned (.string (bs (itoa n))) ∧ Below w.heap.size w w' := by
  refine (Tryz.strconv_Itoa n (by omega) (by omega) w hg.2.2.2).mono ?_
  rintro e w1 ⟨rfl, k, os, hw1⟩
  exact ⟨rfl, by rw [hw1]; exact below_grow' w k os⟩
theorem trim_f (t : ByteArray) (w : World) : ∃ q : ByteArray, q.data.toList = trimPrefix t.data.toList [102] ∧ Calls Tryz.prog 154 #[.string t, .string ⟨#[102]⟩] w fun e w' => e = .returned (.string q) ∧ w' = w :=
  ⟨_, rfl, Tryz.strings_TrimPrefix t ⟨#[102]⟩ w⟩
theorem size_of {q : ByteArray} : q.size = q.data.toList.length := by simp
set_option maxHeartbeats 1000000 in
theorem mailKeyI (u f : ByteArray) (n : Nat) (hn : n < 1000) (hu : u.size ≤ 1000) (hf : f.size ≤ 1000) (w : World) (hg : Gl w) : Calls Tryz.prog 129 #[.string (folderK u f), .int .i64 (n : Int)] w fun e w' => e = .returned (.string (mailK u f (n : Int))) ∧ Below w.heap.size w w' := by
  obtain ⟨q, hq, CT⟩ := trim_f (folderK u f) w
  have hqd : q.data.toList = 47 :: (u.data.toList ++ 47 :: f.data.toList) := by
    rw [hq, folderK_data]
    simp [trimPrefix, hasPrefix, List.isPrefixOf]
  have hqs : q.size ≤ 2100 := by
    rw [size_of, hqd]
    rw [size_of] at hu hf
    simp only [List.length_cons, List.length_append]
    omega
  have CU := uidTextI n hn w hg
  have hts : (bs (d3 n)).size = 3 := by rw [size_of]; exact (d3_is n hn).1
  obtain ⟨t, ht⟩ : ∃ t, bs (d3 n) = t := ⟨_, rfl⟩
  have HE : Hid (((⟨#[109]⟩ ++ q) ++ ⟨#[47]⟩) ++ t = mailK u f (n : Int)) := by
    show _ = _
    apply bs_inj
    rw [← ht]
    simp only [ByteArray.data_append, Array.toList_append, hqd]
    show _ = 109 :: 47 :: (u.data.toList ++ 47 :: (f.data.toList ++ 47 :: d3 n))
    simp
    rfl
  rw [ht] at CU hts
  obtain ⟨K, hK⟩ : ∃ K, folderK u f = K := ⟨_, rfl⟩
  rw [hK] at CT ⊢
  obtain ⟨G, hG⟩ : ∃ G, mailK u f (n : Int) = G := ⟨_, rfl⟩
  rw [hG] at HE ⊢
  clear hq hqd hK ht hG
  go_enter Tryz.func129, Tryz.ntmps129
  go_wp2_with fail
  refine CT.mono ?_
  rintro e w1 ⟨rfl, hw1⟩
  obtain rfl := hw1
  clear CT
  go_wp2_with fail
  refine CU.mono ?_
  rintro e w2 ⟨rfl, hb2⟩
  have B2 : Hid (Below w1.heap.size w1 w2) := hb2
  clear hb2 CU
  go_wp2_with fail
  go_ret
  exact ⟨by rw [← HE.out]; rfl, B2.out⟩
theorem map_take {α β : Type} (f : α → β) (d : α) (L : List α) (j : Nat) (hj : j < L.length) : (L.take (j + 1)).map f = (L.take j).map f ++ [f (L.getD j d)] := by
  rw [List.take_add_one, List.getD_eq_getElem?_getD, List.getElem?_eq_getElem hj]
  simp only [Option.toList_some, List.map_append, List.map_cons, List.map_nil, Option.getD_some]
theorem mem_getD' {α : Type} (L : List α) (d : α) (j : Nat) (hj : j < L.length) : L.getD j d ∈ L := by
  rw [List.getD_eq_getElem?_getD, List.getElem?_eq_getElem hj]
  exact List.getElem_mem _
set_option maxHeartbeats 4000000 in
theorem folPairsI (u : ByteArray) (f : FM) (ax : Option Addr) (ml cx : Nat) (hml : f.mails.length = ml) (hm : ml ≤ 1000) (hf : FitF f) (hu : u.size ≤ 1000) (w : World) (hs : Src w ax (cellsMl f.mails)) (hg : Gl w) (h8 : 8 ≤ w.heap.size) :
    Calls Tryz.prog 83 #[.agg #[.string f.name, .int .i64 f.val, .int .i64 f.next, .slice ax ml cx], .string (folderK u f.name)] w fun e w' => ∃ v, e = .returned v ∧ w'.ownsRow w.heap.size 68 2 v (ml + 1) (cellsP (fPairs u f)) ∧ Below w.heap.size w w' := by
  obtain ⟨fv0, fv1, fx0, fx1, hfn, hfm⟩ := hf
  have hks : (folderK u f.name).size ≤ 2100 := by
    rw [size_of, folderK_data]
    rw [size_of] at hu hfn
    simp only [List.length_cons, List.length_append]
    omega
  have HMK : Hid (∀ (n : Nat) (W : World), n < 1000 → Gl W → Calls Tryz.prog 129 #[.string (folderK u f.name), .int .i64 (n : Int)] W fun e w' => e = .returned (.string (mailK u f.name (n : Int))) ∧ Below W.heap.size W w') := fun n W hn hgW => mailKeyI u f.name n hn hu hfn W hgW
  have HFP : Hid (fPairs u f = (folderK u f.name, metaT f.val f.next) :: f.mails.map (mailP u f.name)) := rfl
  have HMT : Hid (metaT f.val f.next = (bs (itoa f.val) ++ ⟨#[32]⟩) ++ bs (itoa f.next)) := rfl
  have zv := itoa_small f.val fv0 fv1
  have zn := itoa_small f.next fx0 fx1
  obtain ⟨nm, hnm⟩ : ∃ x, f.name = x := ⟨_, rfl⟩
  obtain ⟨fv, hfv⟩ : ∃ x, f.val = x := ⟨_, rfl⟩
  obtain ⟨fx, hfx⟩ : ∃ x, f.next = x := ⟨_, rfl⟩
  obtain ⟨Ms, hMs⟩ : ∃ x, f.mails = x := ⟨_, rfl⟩
  rw [hfv] at zv HMT HFP fv0 fv1 ⊢
  rw [hfx] at zn HMT HFP fx0 fx1 ⊢
  rw [hnm] at hks HMK HFP ⊢
  rw [hMs] at hml hfm hs HFP
  obtain ⟨key, hkey⟩ : ∃ x, folderK u nm = x := ⟨_, rfl⟩
  rw [hkey] at hks HMK HFP ⊢
  obtain ⟨MT, hMT⟩ : ∃ x, metaT fv fx = x := ⟨_, rfl⟩
  rw [hMT] at HMT HFP
  have CV := fun W (hW : Gl W) => itoaI fv fv0 fv1 W hW
  have CN := fun W (hW : Gl W) => itoaI fx fx0 fx1 W hW
  obtain ⟨TV, hTV⟩ : ∃ x, bs (itoa fv) = x := ⟨_, rfl⟩
  obtain ⟨TN, hTN⟩ : ∃ x, bs (itoa fx) = x := ⟨_, rfl⟩
  simp only [hTV] at CV zv HMT
  simp only [hTN] at CN zn HMT
  have HL : Hid (Ms.length = ml) := hml
  have HFM : Hid (∀ m ∈ Ms, 0 ≤ m.1 ∧ m.1 < 1000 ∧ 0 ≤ m.2.1 ∧ m.2.1 ≤ 3 ∧ m.2.2.size ≤ 1000) := hfm
  have HS : Hid (Src w ax (cellsMl Ms)) := hs
  have HG : Hid (Gl w) := hg
  have H8 : Hid (8 ≤ w.heap.size) := h8
  obtain ⟨w0, hw0⟩ : ∃ W, w.alloc (.cells #[.string nm, .int .i64 fv, .int .i64 fx, .slice ax ml cx] 28) = W := ⟨_, rfl⟩
  have X0 : Hid (Box w0 w.heap.size [.string nm, .int .i64 fv, .int .i64 fx, .slice ax ml cx]) := by show Box _ _ _; rw [← hw0]; exact Box.new rfl
  have B0 : Hid (Below w.heap.size w w0) := by show Below _ _ _; rw [← hw0]; exact (Below.refl _ _).alloc (Nat.le_refl _) _
  have Z0 : Hid (w0.heap.size = w.heap.size + 1) := by show _ = _; rw [← hw0]; simp
  clear hml hfm hs hg h8 hnm hfv hfx hMs hkey hMT hTV hTN fv0 fv1 fx0 fx1 hfn
  go_enter Tryz.func83, Tryz.ntmps83
  go_upto_region 1 with fail
  clear hw0
  go_cut [5] from 8 to 18 (fun ps wx => ∃ p : Nat, ps = .slice (some ⟨p, 0, none⟩) 1 1 ∧ Hid (wx.ownsRow (w.heap.size + 1) 68 2 (.slice (some ⟨p, 0, none⟩) 1 1) 1 (cellsP [(key, MT)])) ∧ Hid (Below w0.heap.size w0 wx))
  case first =>
    obtain ⟨c1, _⟩ := X0.out 1 _ rfl
    obtain ⟨c2, _⟩ := X0.out 2 _ rfl
    refine wp_region_noPanic ?_
    refine wp_region_held_drew (S := fun w' => w'.cell? ⟨w.heap.size, 1, none⟩ = some (.int .i64 fv) ∧ w'.cell? ⟨w.heap.size, 2, none⟩ = some (.int .i64 fx)) (by kernel_rfl) ⟨c1, c2⟩ (fun hHeld => ?_)
    refine tkA (i := 0) (v := .string key) ?_ hHeld ?_
    · intro w9 hSw
      obtain ⟨z0, z1⟩ := hSw
      go_simp
    simp only [Act.put, List.setIfInBounds_toArray, List.set_cons_zero, List.set_cons_succ]
    refine tkA (i := 1) (v := .pointer (some ⟨w.heap.size, 1, none⟩)) ?_ hHeld ?_
    · intro w9 hSw
      obtain ⟨z0, z1⟩ := hSw
      go_simp
    simp only [Act.put, List.setIfInBounds_toArray, List.set_cons_zero, List.set_cons_succ]
    refine tkA (i := 2) (v := .int .i64 fv) ?_ hHeld ?_
    · intro w9 hSw
      obtain ⟨z0, z1⟩ := hSw
      go_simp
    simp only [Act.put, List.setIfInBounds_toArray, List.set_cons_zero, List.set_cons_succ]
    refine tkA (i := 5) (v := .pointer (some ⟨w.heap.size, 2, none⟩)) ?_ hHeld ?_
    · intro w9 hSw
      obtain ⟨z0, z1⟩ := hSw
      go_simp
    simp only [Act.put, List.setIfInBounds_toArray, List.set_cons_zero, List.set_cons_succ]
    refine tkA (i := 6) (v := .int .i64 fx) ?_ hHeld ?_
    · intro w9 hSw
      obtain ⟨z0, z1⟩ := hSw
      go_simp
    simp only [Act.put, List.setIfInBounds_toArray, List.set_cons_zero, List.set_cons_succ]
    refine wpAnyH_ready (rs := [3]) (by kernel_rfl) (by simp) ?_
    refine AllReadyH.cons rfl (fun K hK => ?_) AllReadyH.nil
    go_simp
    refine (CV _ (HG.out.below H8.out (B0.out.trans (((Below.refl w0.heap.size w0).drew).mono B0.out.size)))).mono ?_
    rintro e wa1 ⟨rfl, hb1⟩
    dsimp only
    have B1 : Hid (Below w0.heap.size w0 wa1) := Below.trans ((Below.refl w0.heap.size w0).drew) (hb1.mono ((Below.refl w0.heap.size w0).drew).size)
    have X1 : Hid (Box wa1 w.heap.size [.string nm, .int .i64 fv, .int .i64 fx, .slice ax ml cx]) := X0.out.below B1.out
    clear hb1
    refine hK _ _ ⟨(X1.out 1 _ rfl).1, (X1.out 2 _ rfl).1⟩ (fun hHeld => ?_)
    clear hK K
    refine tkA (i := 4) (v := .string (TV ++ ⟨#[32]⟩)) ?_ hHeld ?_
    · intro w9 hSw
      obtain ⟨z0, z1⟩ := hSw
      go_simp
      omega
    simp only [Act.put, List.setIfInBounds_toArray, List.set_cons_zero, List.set_cons_succ]
    refine wpAnyH_ready (rs := [7]) (by kernel_rfl) (by simp) ?_
    refine AllReadyH.cons rfl (fun K hK => ?_) AllReadyH.nil
    go_simp
    refine (CN _ (HG.out.below H8.out (B0.out.trans ((B1.out).mono B0.out.size)))).mono ?_
    rintro e wa2 ⟨rfl, hb2⟩
    dsimp only
    have B2 : Hid (Below w0.heap.size w0 wa2) := Below.trans (B1.out) (hb2.mono (B1.out).size)
    have X2 : Hid (Box wa2 w.heap.size [.string nm, .int .i64 fv, .int .i64 fx, .slice ax ml cx]) := X0.out.below B2.out
    clear hb2
    refine hK _ _ ⟨(X2.out 1 _ rfl).1, (X2.out 2 _ rfl).1⟩ (fun hHeld => ?_)
    clear hK K
    refine tkA (i := 8) (v := .string ((TV ++ ⟨#[32]⟩) ++ TN)) ?_ hHeld ?_
    · intro w9 hSw
      obtain ⟨z0, z1⟩ := hSw
      go_simp
      omega
    simp only [Act.put, List.setIfInBounds_toArray, List.set_cons_zero, List.set_cons_succ]
    refine tkA (i := 9) (v := .agg #[.string key, .string ((TV ++ ⟨#[32]⟩) ++ TN)]) ?_ hHeld ?_
    · intro w9 hSw
      obtain ⟨z0, z1⟩ := hSw
      go_simp
    simp only [Act.put, List.setIfInBounds_toArray, List.set_cons_zero, List.set_cons_succ]
    refine wpAnyH_ready (rs := [10]) (by kernel_rfl) (by simp) ?_
    refine AllReadyH.cons rfl (fun K hK => ?_) AllReadyH.nil
    go_simp
    have A3 : Hid (Below w0.heap.size w0 (wa2.alloc (.cells #[.string key, .string ((TV ++ ⟨#[32]⟩) ++ TN)] 68))) := Below.alloc (B2.out) (B2.out).size _
    have O3 : Hid ((wa2.alloc (.cells #[.string key, .string ((TV ++ ⟨#[32]⟩) ++ TN)] 68)).ownsRow (w.heap.size + 1) 68 2 (.slice (some ⟨wa2.heap.size, 0, none⟩) 1 1) 1 (cellsP [(key, MT)])) := own_lit rfl (by have h9 := (B2.out).size; have h7 := Z0.out; omega) (by rw [HMT.out]; rfl) rfl (by omega)
    have X3 : Hid (Box (wa2.alloc (.cells #[.string key, .string ((TV ++ ⟨#[32]⟩) ++ TN)] 68)) w.heap.size [.string nm, .int .i64 fv, .int .i64 fx, .slice ax ml cx]) := X0.out.below A3.out
    refine hK _ _ ⟨(X3.out 1 _ rfl).1, (X3.out 2 _ rfl).1⟩ (fun hHeld => ?_)
    clear hK K
    refine wpAnyH_ready (rs := [11]) (by kernel_rfl) (by simp) ?_
    refine AllReadyH.cons rfl (fun K hK => ?_) AllReadyH.nil
    go_simp
    refine hK _ _ ⟨(X3.out 1 _ rfl).1, (X3.out 2 _ rfl).1⟩ (fun hHeld => ?_)
    clear hK K
    refine wpAnyH_done (by kernel_rfl) ?_ _
    refine NoPanic.normal ?_
    clear hHeld
    go_wp2_with fail
    go_meet
    exact ⟨_, rfl, O3.out, A3.out⟩
  case rest =>
    obtain ⟨p, rfl, ho, hbc⟩ := hcut
    obtain ⟨c3, _⟩ := X0.out.below hbc.out 3 _ rfl
    have BC : Hid (Below w.heap.size w wc) := B0.out.trans (hbc.out.mono B0.out.size)
    have HO : Hid (wc.ownsRow (w.heap.size + 1) 68 2 (.slice (some ⟨p, 0, none⟩) 1 1) 1 (cellsP ((key, MT) :: (Ms.take 0).map (mailP u nm)))) := ho.out
    have ZC : Hid (w.heap.size < wc.heap.size) := by have h9 := hbc.out.size; have h7 := Z0.out; show _ < _; omega
    clear ho hbc CV CN
    go_wp2_with fail
    go_loopw [5, 22] (fun v iv wr => ∃ (j : Nat) (a' : Option Addr) (c' : Nat), j ≤ ml ∧ v = .slice a' (j + 1) c' ∧ iv = .int .i64 (j : Int) ∧ Hid (wr.ownsRow (w.heap.size + 1) 68 2 (.slice a' (j + 1) c') (j + 1) (cellsP ((key, MT) :: (Ms.take j).map (mailP u nm)))) ∧ Hid (Below w.heap.size w wr) ∧ Hid (w.heap.size < wr.heap.size)) (fun _ i _ => ml - (RowKit.intOf i).toNat)
    case atStart => exact ⟨0, _, _, Nat.zero_le _, rfl, rfl, HO.out, BC.out, ZC.out⟩
    case round =>
      obtain ⟨j, a', c', hj, rfl, rfl, ho, hbr, hzr⟩ := hrel
      by_cases hlt : j < ml
      · have hltj : (j : Int) < (ml : Int) := by omega
        have hjl : j < Ms.length := by rw [HL.out]; exact hlt
        obtain ⟨b, o, x0, x1, x2, rfl, d0, d1, d2, hx⟩ := srcMl (HS.out.below hbr.out) hjl
        have hmem := HFM.out _ (mem_getD' Ms ml0 j hjl)
        rw [hx.out] at hmem
        dsimp only at hmem
        obtain ⟨m0, m1, m2, m3, m4⟩ := hmem
        have HTK : Hid ((Ms.take (j + 1)).map (mailP u nm) = (Ms.take j).map (mailP u nm) ++ [mailP u nm (x0, x1, x2)]) := by show _ = _; rw [map_take _ ml0 Ms j hjl, hx.out]
        obtain ⟨n0, rfl⟩ : ∃ n0 : Nat, x0 = (n0 : Int) := ⟨x0.toNat, by omega⟩
        have CK := fun W (hW : Gl W) => HMK.out n0 W (by omega) hW
        have CD := fun W (hW : Gl W) => itoaI x1 m2 (by omega) W hW
        have zd := itoa_small x1 m2 (by omega)
        have HMP : Hid (mailP u nm ((n0 : Int), x1, x2) = (mailK u nm (n0 : Int), bs (itoa x1) ++ x2)) := rfl
        obtain ⟨TK, hTK⟩ : ∃ x, mailK u nm (n0 : Int) = x := ⟨_, rfl⟩
        obtain ⟨TD, hTD⟩ : ∃ x, bs (itoa x1) = x := ⟨_, rfl⟩
        simp only [hTK] at CK HMP
        simp only [hTD] at CD HMP zd
        obtain ⟨w1, hw1⟩ : ∃ W, wr.alloc (.cells #[.int .i64 (n0 : Int), .int .i64 x1, .string x2] 37) = W := ⟨_, rfl⟩
        have XQ : Hid (Box w1 wr.heap.size [.int .i64 (n0 : Int), .int .i64 x1, .string x2]) := by show Box _ _ _; rw [← hw1]; exact Box.new rfl
        have RQ : Hid (Below wr.heap.size wr w1) := by show Below _ _ _; rw [← hw1]; exact (Below.refl _ _).alloc (Nat.le_refl _) _
        have BQ : Hid (Below w.heap.size w w1) := hbr.out.trans (RQ.out.mono hbr.out.size)
        have OQ : Hid (w1.ownsRow (w.heap.size + 1) 68 2 (.slice a' (j + 1) c') (j + 1) (cellsP ((key, MT) :: (Ms.take j).map (mailP u nm)))) := own_below ho.out RQ.out
        have ZQ : Hid (w.heap.size < w1.heap.size) := by have h9 := RQ.out.size; have h7 := hzr.out; show _ < _; omega
        have HRB : Hid (∀ g, Value.ownBlock (.slice a' (j + 1) c') = some g → g < wr.heap.size) := fun g h9 => (ho.out.lt g h9).2
        clear hx m0 m1 m2 m3 hTK hTD ho
        go_upto_region 5 with fail
        clear hw1
        obtain ⟨e0', _⟩ := XQ.out 0 _ rfl
        obtain ⟨e1', _⟩ := XQ.out 1 _ rfl
        obtain ⟨e2', _⟩ := XQ.out 2 _ rfl
        refine wp_region_noPanic ?_
        refine wp_region_held_drew (S := fun w' => w'.cell? ⟨wr.heap.size, 0, none⟩ = some (.int .i64 (n0 : Int)) ∧ w'.cell? ⟨wr.heap.size, 1, none⟩ = some (.int .i64 x1) ∧ w'.cell? ⟨wr.heap.size, 2, none⟩ = some (.string x2)) (by kernel_rfl) ⟨e0', e1', e2'⟩ (fun hHeld => ?_)
        refine tkA (i := 0) (v := .slice a' (j + 1) c') ?_ hHeld ?_
        · intro w9 hSw
          obtain ⟨z0, z1, z2⟩ := hSw
          go_simp
        simp only [Act.put, List.setIfInBounds_toArray, List.set_cons_zero, List.set_cons_succ]
        refine tkA (i := 1) (v := .string key) ?_ hHeld ?_
        · intro w9 hSw
          obtain ⟨z0, z1, z2⟩ := hSw
          go_simp
        simp only [Act.put, List.setIfInBounds_toArray, List.set_cons_zero, List.set_cons_succ]
        refine tkA (i := 2) (v := .pointer (some ⟨wr.heap.size, 0, none⟩)) ?_ hHeld ?_
        · intro w9 hSw
          obtain ⟨z0, z1, z2⟩ := hSw
          go_simp
        simp only [Act.put, List.setIfInBounds_toArray, List.set_cons_zero, List.set_cons_succ]
        refine tkA (i := 3) (v := .int .i64 (n0 : Int)) ?_ hHeld ?_
        · intro w9 hSw
          obtain ⟨z0, z1, z2⟩ := hSw
          go_simp
        simp only [Act.put, List.setIfInBounds_toArray, List.set_cons_zero, List.set_cons_succ]
        refine tkA (i := 5) (v := .pointer (some ⟨wr.heap.size, 1, none⟩)) ?_ hHeld ?_
        · intro w9 hSw
          obtain ⟨z0, z1, z2⟩ := hSw
          go_simp
        simp only [Act.put, List.setIfInBounds_toArray, List.set_cons_zero, List.set_cons_succ]
        refine tkA (i := 6) (v := .int .i64 x1) ?_ hHeld ?_
        · intro w9 hSw
          obtain ⟨z0, z1, z2⟩ := hSw
          go_simp
        simp only [Act.put, List.setIfInBounds_toArray, List.set_cons_zero, List.set_cons_succ]
        refine tkA (i := 8) (v := .pointer (some ⟨wr.heap.size, 2, none⟩)) ?_ hHeld ?_
        · intro w9 hSw
          obtain ⟨z0, z1, z2⟩ := hSw
          go_simp
        simp only [Act.put, List.setIfInBounds_toArray, List.set_cons_zero, List.set_cons_succ]
        refine tkA (i := 9) (v := .string x2) ?_ hHeld ?_
        · intro w9 hSw
          obtain ⟨z0, z1, z2⟩ := hSw
          go_simp
        simp only [Act.put, List.setIfInBounds_toArray, List.set_cons_zero, List.set_cons_succ]
        refine wpAnyH_ready (rs := [4]) (by kernel_rfl) (by simp) ?_
        refine AllReadyH.cons rfl (fun K hK => ?_) AllReadyH.nil
        go_simp
        refine (CK _ (HG.out.below H8.out (BQ.out.trans (((Below.refl w1.heap.size w1).drew).mono BQ.out.size)))).mono ?_
        rintro e wa1 ⟨rfl, hb1⟩
        dsimp only
        have B1 : Hid (Below w1.heap.size w1 wa1) := Below.trans ((Below.refl w1.heap.size w1).drew) (hb1.mono ((Below.refl w1.heap.size w1).drew).size)
        have X1 : Hid (Box wa1 wr.heap.size [.int .i64 (n0 : Int), .int .i64 x1, .string x2]) := XQ.out.below B1.out
        clear hb1
        refine hK _ _ ⟨(X1.out 0 _ rfl).1, (X1.out 1 _ rfl).1, (X1.out 2 _ rfl).1⟩ (fun hHeld => ?_)
        clear hK K
        refine wpAnyH_ready (rs := [7]) (by kernel_rfl) (by simp) ?_
        refine AllReadyH.cons rfl (fun K hK => ?_) AllReadyH.nil
        go_simp
        refine (CD _ (HG.out.below H8.out (BQ.out.trans ((B1.out).mono BQ.out.size)))).mono ?_
        rintro e wa2 ⟨rfl, hb2⟩
        dsimp only
        have B2 : Hid (Below w1.heap.size w1 wa2) := Below.trans (B1.out) (hb2.mono (B1.out).size)
        have X2 : Hid (Box wa2 wr.heap.size [.int .i64 (n0 : Int), .int .i64 x1, .string x2]) := XQ.out.below B2.out
        clear hb2
        refine hK _ _ ⟨(X2.out 0 _ rfl).1, (X2.out 1 _ rfl).1, (X2.out 2 _ rfl).1⟩ (fun hHeld => ?_)
        clear hK K
        refine tkA (i := 10) (v := .string (TD ++ x2)) ?_ hHeld ?_
        · intro w9 hSw
          obtain ⟨z0, z1, z2⟩ := hSw
          go_simp
          omega
        simp only [Act.put, List.setIfInBounds_toArray, List.set_cons_zero, List.set_cons_succ]
        refine tkA (i := 11) (v := .agg #[.string TK, .string (TD ++ x2)]) ?_ hHeld ?_
        · intro w9 hSw
          obtain ⟨z0, z1, z2⟩ := hSw
          go_simp
        simp only [Act.put, List.setIfInBounds_toArray, List.set_cons_zero, List.set_cons_succ]
        refine wpAnyH_ready (rs := [12]) (by kernel_rfl) (by simp) ?_
        refine AllReadyH.cons rfl (fun K hK => ?_) AllReadyH.nil
        go_simp
        have A3 : Hid (Below w1.heap.size w1 (wa2.alloc (.cells #[.string TK, .string (TD ++ x2)] 68))) := Below.alloc (B2.out) (B2.out).size _
        have X3 : Hid (Box (wa2.alloc (.cells #[.string TK, .string (TD ++ x2)] 68)) wr.heap.size [.int .i64 (n0 : Int), .int .i64 x1, .string x2]) := XQ.out.below A3.out
        refine hK _ _ ⟨(X3.out 0 _ rfl).1, (X3.out 1 _ rfl).1, (X3.out 2 _ rfl).1⟩ (fun hHeld => ?_)
        clear hK K
        refine wpAnyH_ready (rs := [13]) (by kernel_rfl) (by simp) ?_
        refine AllReadyH.cons rfl (fun K hK => ?_) AllReadyH.nil
        refine step_append_src rfl (.tmp 26) (.tmp 38) 23 rfl (w.heap.size + 1) 68 (.agg #[.string ⟨#[]⟩, .string ⟨#[]⟩]) 2 32 Tryz.underlying23 infoP rfl (by decide) (by decide) (.slice a' (j + 1) c') (j + 1) (cellsP ((key, MT) :: (Ms.take j).map (mailP u nm))) (by rfl) (own_below OQ.out A3.out) ⟨wa2.heap.size, 0, none⟩ 1 1 (cellsP [(TK, TD ++ x2)]) (by rfl) (by rfl) (src_oneP rfl) (cellsP_one _) (by omega) (by omega) (by have h9 := A3.out.size; have h7 := ZQ.out; show w.heap.size + 1 ≤ (wa2.alloc (.cells #[.string TK, .string (TD ++ x2)] 68)).heap.size; omega) ?_
        intro v6 w6 hown6 hgrow6 hloc6
        obtain ⟨a6, c6, rfl, _, hl6⟩ := own_src hown6
        have B4 : Hid (Below w.heap.size w w6) := (BQ.out.trans (A3.out.mono BQ.out.size)).grown hgrow6 (by have h9 := A3.out.size; have h7 := ZQ.out; show w.heap.size ≤ (wa2.alloc (.cells #[.string TK, .string (TD ++ x2)] 68)).heap.size; omega) (fun g h9 => by have h7 := (OQ.out.lt g h9).1; omega)
        have Z4 : Hid (w.heap.size < w6.heap.size) := by have h9 := hgrow6.size; have h8 := A3.out.size; have h7 := ZQ.out; have h6 : (wa2.alloc (.cells #[.string TK, .string (TD ++ x2)] 68)).heap.size ≤ w6.heap.size := h9; show _ < _; omega
        have X4 : Hid (Box w6 wr.heap.size [.int .i64 (n0 : Int), .int .i64 x1, .string x2]) := Box.grown (w := (wa2.alloc (.cells #[.string TK, .string (TD ++ x2)] 68))) X3.out hgrow6 (fun h9 => by
          have h7 := HRB.out _ h9
          omega)
        have O4 : Hid (w6.ownsRow (w.heap.size + 1) 68 2 (.slice a6 (j + 1 + 1) c6) (j + 1 + 1) (cellsP ((key, MT) :: (Ms.take (j + 1)).map (mailP u nm)))) := by
          show w6.ownsRow _ _ _ _ _ _
          rw [HTK.out, HMP.out, ← List.cons_append, cellsP_append]
          exact hown6
        clear hown6 hgrow6 hloc6 hl6
        refine hK _ _ ⟨(X4.out 0 _ rfl).1, (X4.out 1 _ rfl).1, (X4.out 2 _ rfl).1⟩ (fun hHeld => ?_)
        clear hK K
        refine wpAnyH_ready (rs := [14]) (by kernel_rfl) (by simp) ?_
        refine AllReadyH.cons rfl (fun K hK => ?_) AllReadyH.nil
        go_simp
        refine hK _ _ ⟨(X4.out 0 _ rfl).1, (X4.out 1 _ rfl).1, (X4.out 2 _ rfl).1⟩ (fun hHeld => ?_)
        clear hK K
        refine wpAnyH_done (by kernel_rfl) ?_ _
        refine NoPanic.normal ?_
        clear hHeld
        go_wp2_with fail
        exact ⟨⟨j + 1, _, _, by omega, rfl, by go_num, O4.out, B4.out, Z4.out⟩, by simp [RowKit.intOf]; omega⟩
      · obtain rfl : j = ml := by omega
        have hltj : ¬ (j : Int) < (j : Int) := by omega
        have HFO : Hid (wr.ownsRow w.heap.size 68 2 (.slice a' (j + 1) c') (j + 1) (cellsP (fPairs u f))) := by
          show wr.ownsRow _ _ _ _ _ _
          rw [HFP.out]
          have h9 := ho.out
          rw [List.take_of_length_le (by rw [HL.out]; exact Nat.le_refl _)] at h9
          exact own_mono h9 (by omega)
        clear ho
        go_wp2_with fail
        go_ret
        exact ⟨_, rfl, HFO.out, hbr.out⟩
end Go.Proofs.YthgbclipknfmjaaGreatDoor
