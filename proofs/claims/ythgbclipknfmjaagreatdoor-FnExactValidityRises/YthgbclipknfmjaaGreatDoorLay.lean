
/-
  The desk of a mail store: a user's folders are laid out. By an AI agent.
-/
import Derived.Test.YthgbclipknfmjaaGreatDoorRng
namespace Go.Proofs.YthgbclipknfmjaaGreatDoor
open Go.ChangeShapes Go.WideShapes Go.ChangeAt Go.RowKit Go.Deep Go.Lib
open Go.ChangeMaps (setBlock)
set_option linter.unusedVariables false
set_option linter.unusedSimpArgs false
set_option maxRecDepth 100000

def takeAll (nx : Int) (u : ByteArray) : SM → List PM → Option SM
  | S, [] => some S
  | S, p :: L => (takeM nx u S p).bind fun S' => takeAll nx u S' L
abbrev S0 : SM := ⟨[], ⟨#[]⟩, []⟩
def layF (nx : Int) (u : ByteArray) (S : SM) (L : List PM) : Bool := match takeAll nx u S L with
  | some S' => (lookF inboxT S'.fs).isSome && decide (sumF S'.fs ≤ 6)
  | none => false
theorem sum_new {g : FM} : ∀ {fs : List FM}, sumF (putF g fs) ≤ sumF fs + g.mails.length
  | [] => by simp [putF, sumF]
  | f :: fs => by
    have ih := sum_new (g := g) (fs := fs)
    unfold putF
    split
    · unfold sumF; omega
    · unfold sumF; omega
theorem sum_old {f g : FM} : ∀ {fs : List FM}, lookF g.name fs = some f → sumF (putF g fs) + f.mails.length = sumF fs + g.mails.length
  | [], h => by cases h
  | x :: fs, h => by
    unfold lookF at h
    unfold putF
    by_cases e : x.name = g.name
    · rw [if_pos e] at h
      cases h
      rw [if_pos e]
      unfold sumF; omega
    · rw [if_neg e] at h
      rw [if_neg e]
      have ih := sum_old h
      unfold sumF; omega
theorem put_sum {S S' : SM} {o : Option FM} (h : putM S o = some S') (ho : ∀ g, o = some g → sumF (putF g S.fs) ≤ sumF S.fs + 1) : sumF S'.fs ≤ sumF S.fs + 1 := by
  unfold putM at h
  obtain ⟨g, rfl, rfl⟩ := Option.map_eq_some_iff.1 h
  exact ho g rfl
theorem aside_sum {S S' : SM} {p : PM} (h : asideM S p = some S') : sumF S'.fs ≤ sumF S.fs + 1 := by
  cases h
  show sumF S.fs ≤ _
  omega
theorem takeM_sum {nx : Int} {u : ByteArray} {S S' : SM} {p : PM} (h : takeM nx u S p = some S') : sumF S'.fs ≤ sumF S.fs + 1 := by
  unfold takeM takeP at h
  split at h
  · split at h
    · unfold userM at h
      split at h
      · cases h
        show sumF S.fs ≤ _
        omega
      · cases h
    · exact aside_sum h
  · split at h
    · refine put_sum h fun g hg => ?_
      have h1 := folderM_facts hg
      have h2 := sum_new (g := g) (fs := S.fs)
      omega
    · exact aside_sum h
  · split at h
    · refine put_sum h fun g hg => ?_
      unfold mailM at hg
      obtain ⟨f, h1, h2⟩ := Option.bind_eq_some_iff.1 hg
      obtain ⟨un, _, _, _, _, _, _, _, _, rfl⟩ := mailO_some h2
      have h3 := (lookF_mem h1).2
      rw [← h3] at h1
      have h4 := sum_old (g := mailU f un p.2) h1
      have h5 : (mailU f un p.2).mails.length = f.mails.length + 1 := List.length_append
      rw [h5] at h4
      omega
    · exact aside_sum h
  · exact aside_sum h
theorem lay_next {nx : Int} {u : ByteArray} {S : SM} {L : List PM} {k : Nat} (hk : k < L.length) : takeAll nx u S (L.drop k) = (takeM nx u S (L.getD k p0)).bind fun S' => takeAll nx u S' (L.drop (k + 1)) := by
  rw [List.drop_eq_getElem_cons hk, List.getD_eq_getElem?_getD, List.getElem?_eq_getElem hk]
  rfl
set_option maxHeartbeats 2000000 in
theorem layI (u : ByteArray) (w : World) (M : Nat) (a : Option Addr) (n c : Nat) (va : Value) (asd : List PM) (nx : Int) (u0 wd0 : ByteArray) (X : List FX) (L : List PM) (hD : DeskAt w M ⟨a, n, c, va, asd, nx, u0, wd0, X⟩) (hL : L.length = n) (hGL : GoodL L) (hsrc : ∀ w', Below M w w' → Src w' a (cellsP L)) (hg : Gl w) (h8 : 8 ≤ M) (hu : u.size ≤ 1000) (hnx : 1 ≤ nx ∧ nx ≤ 10000) (bb : Bool) (HB : Hid (layF nx u S0 L = bb)) :
    Calls Tryz.prog 62 #[.pointer (some ⟨M + 1, 0, none⟩), .string u] w fun e w' => e = .returned (.bool bb) ∧ (∀ S, takeAll nx u S0 L = some S → StAt w' M a n c nx u S n ∧ sumF S.fs ≤ n) ∧ Below M w w' := by
  obtain ⟨hbox, ⟨clock, hmap⟩, _, _⟩ := hD
  obtain ⟨e5, _⟩ := hbox 5 _ rfl
  have hM1 : M + 1 < w.heap.size := World.block_lt_of_cell? _ _ e5
  have hcl := run_clear (w := w) (M := M) hmap.1
  have HW1 : Below M w (setBlock w M (.map #[] clock)) := sb_below _ _ _
  have hb1 := box_sb hbox (.map #[] clock) (B := M + 1) (M := M) (by omega)
  have hm1 : MapIs (setBlock w M (.map #[] clock)) M clock [] := ⟨sb_same _ _ _ (by omega), fun x hx => (by cases hx), List.nodup_nil⟩
  have hn60 : n ≤ 60 := by rw [← hL]; exact hGL.1
  obtain ⟨W1, hW1⟩ : ∃ W, setBlock w M (.map #[] clock) = W := ⟨_, rfl⟩
  rw [hW1] at HW1 hb1 hm1
  simp only [hW1] at hcl
  have bx3 := hb1.set 3 (.string u)
  have bx4 := bx3.set 4 (.string ⟨#[]⟩)
  have bx1 := bx4.set 1 (.slice none 0 0)
  obtain ⟨W2, hW2⟩ : ∃ W, ((W1.setCell ⟨M + 1, 3, none⟩ (.string u)).setCell ⟨M + 1, 4, none⟩ (.string ⟨#[]⟩)).setCell ⟨M + 1, 1, none⟩ (.slice none 0 0) = W := ⟨_, rfl⟩
  have HB2 : Hid (Below M w W2) := by
    rw [← hW2]
    exact ((HW1.setCell (by show M ≤ M + 1; omega) _).setCell (by show M ≤ M + 1; omega) _).setCell (by show M ≤ M + 1; omega) _
  have HS2 : Hid (StAt W2 M a n c nx u S0 0) := by
    refine ⟨.slice none 0 0, [], ⟨?_, ⟨clock, ?_⟩, World.ownsRow_nil _ _ _ _, fun x hx => (by cases hx), List.Pairwise.nil⟩, rfl, List.nodup_nil, fun f hf => (by cases hf), Nat.le_refl _⟩
    · rw [← hW2]; exact bx1
    · rw [← hW2]
      exact ((hm1.setCell _ _ (by show M ≠ M + 1; omega)).setCell _ _ (by show M ≠ M + 1; omega)).setCell _ _ (by show M ≠ M + 1; omega)
  obtain ⟨d3, f3⟩ := hb1 3 _ rfl
  obtain ⟨d4, f4⟩ := bx3 4 _ rfl
  obtain ⟨d1, f1⟩ := bx4 1 _ rfl
  obtain ⟨d0, _⟩ := bx1 0 _ rfl
  rw [hW2] at d0
  have HSRC : Hid (∀ w', Below M w w' → Src w' a (cellsP L)) := hsrc
  have HG : Hid (Gl w) := hg
  have HL : Hid (L.length = n) := hL
  have HGL : Hid (GoodL L) := hGL
  have HTA : Hid (takeAll nx u S0 (L.drop 0) = takeAll nx u S0 L) := rfl
  clear hsrc hg hL hGL hbox hmap HW1 hm1 bx3 bx4 bx1 hb1 hW1
  go_enter Tryz.func62, Tryz.ntmps62
  go_upto_region 3 with fail
  try rw [hW2]
  clear hcl hW2 d3 f3 d4 f4 d1 f1 e5
  go_wp2_with fail
  go_loopw [26] (fun iv wr => ∃ (k : Nat) (S : SM), k ≤ n ∧ iv = .int .i64 (k : Int) ∧ Hid (takeAll nx u S (L.drop k) = takeAll nx u S0 L) ∧ Hid (StAt wr M a n c nx u S k) ∧ Hid (sumF S.fs ≤ k) ∧ Hid (Below M w wr)) (fun i _ => n - (RowKit.intOf i).toNat)
  case atStart => exact ⟨0, S0, by omega, rfl, HTA.out, HS2.out, Nat.le_refl _, HB2.out⟩
  case round =>
    obtain ⟨k, S, hk, rfl, hta, hst, hsm, hbr⟩ := hrel
    by_cases hlt : k < n
    · have hlti : (k : Int) < (n : Int) := by omega
      have hkL : k < L.length := by rw [HL.out]; exact hlt
      obtain ⟨b, o, pk, pv, rfl, hc0, hc1, hy⟩ := srcP (HSRC.out _ hbr.out) hkL
      have hmem : (pk, pv) ∈ L := by rw [← hy.out]; exact mem_getD L p0 k hkL
      have hsz := HGL.out.2.1 _ hmem
      have hs1 : pk.size ≤ 30 := hsz.2.1
      have hs2 : pv.size ≤ 90 := hsz.2.2
      have HTN : Hid (((takeM nx u S (pk, pv)).bind fun S' => takeAll nx u S' (L.drop (k + 1))) = takeAll nx u S0 L) := by
        show _ = _
        rw [← hta.out, lay_next hkL, hy.out]
      clear hta hmem hsz hkL
      have hMr : M + 1 < wr.heap.size := by obtain ⟨_, _, h9, _⟩ := hst.out; exact World.block_lt_of_cell? _ _ (h9.1 0 _ rfl).1
      have X0 : Hid (Box (wr.alloc (.cells #[.string pk, .string pv] 68)) wr.heap.size [.string pk, .string pv]) := Box.new rfl
      have B2 : Hid (Below M w (wr.alloc (.cells #[.string pk, .string pv] 68))) := hbr.out.alloc (by omega) _
      have ST2 : Hid (StAt (wr.alloc (.cells #[.string pk, .string pv] 68)) M (some ⟨b, o, none⟩) n c nx u S k) := hst.out.later ((Below.refl _ _).alloc (Nat.le_refl _) _)
      obtain ⟨p0', _⟩ := X0.out 0 _ rfl
      obtain ⟨p1', _⟩ := X0.out 1 _ rfl
      obtain ⟨tb, htb⟩ : ∃ x, (takeM nx u S (pk, pv)).isSome = x := ⟨_, rfl⟩
      have CT := takeI pk pv (wr.alloc (.cells #[.string pk, .string pv] 68)) M _ n c nx u S k ST2.out (by omega) (HG.out.below h8 B2.out) h8 hs1 hs2 hu hnx tb htb
      clear hst
      go_wp2_with fail
      refine CT.mono ?_
      rintro e w5 ⟨rfl, hS5, hb5⟩
      have B5 : Hid (Below M w w5) := B2.out.trans hb5
      have S5 : Hid (∀ S', takeM nx u S (pk, pv) = some S' → StAt w5 M (some ⟨b, o, none⟩) n c nx u S' (k + 1)) := hS5
      clear hS5 hb5 X0 p0' p1' CT
      cases tb with
      | false =>
        have hno : takeM nx u S (pk, pv) = none := Option.isSome_eq_false_iff.1 htb |> Option.isNone_iff_eq_none.1
        have HN : Hid (takeAll nx u S0 L = none) := by show _ = _; rw [← HTN.out, hno]; rfl
        have HZ : Hid (false = bb) := by show _ = _; rw [← HB.out]; unfold layF; rw [HN.out]
        clear hno htb
        go_wp2_with fail
        go_ret
        exact ⟨ret_bool HZ.out, (fun S h9 => by rw [HN.out] at h9; cases h9), B5.out⟩
      | true =>
        obtain ⟨S', hS'⟩ := Option.isSome_iff_exists.1 htb
        have HN : Hid (takeAll nx u S' (L.drop (k + 1)) = takeAll nx u S0 L) := by show _ = _; rw [← HTN.out, hS']; rfl
        have HS' : Hid (StAt w5 M (some ⟨b, o, none⟩) n c nx u S' (k + 1)) := S5.out S' hS'
        have HSM : Hid (sumF S'.fs ≤ k + 1) := by have h9 := takeM_sum hS'; have h7 := hsm.out; show _ ≤ _; omega
        clear hS' htb S5
        go_wp2_with fail
        exact ⟨⟨k + 1, S', by omega, by go_num, HN.out, HS'.out, HSM.out, B5.out⟩, by simp [RowKit.intOf]; omega⟩
    · obtain rfl : k = n := by omega
      have hlti : ¬ (k : Int) < (k : Int) := by omega
      have HN : Hid (takeAll nx u S0 L = some S) := by
        show _ = _
        rw [← hta.out, List.drop_of_length_le (by rw [HL.out]; exact Nat.le_refl _)]
        rfl
      clear hta
      have HB9 : Hid (((lookF inboxT S.fs).isSome && decide (sumF S.fs ≤ 6)) = bb) := by show _ = _; rw [← HB.out]; unfold layF; rw [HN.out]
      have HEND : Hid (∀ W, Below wr.heap.size wr W → (∀ S9, takeAll nx u S0 L = some S9 → StAt W M a k c nx u S9 k ∧ sumF S9.fs ≤ k) ∧ Below M w W) := fun W hW => by
        refine ⟨fun S9 h9 => ?_, hbr.out.trans (hW.mono (by have := hbr.out.size; omega))⟩
        rw [HN.out] at h9
        cases h9
        exact ⟨hst.out.later hW, hsm.out⟩
      obtain ⟨va', X', hD', hV', hN', hF', hA'⟩ := hst.out
      obtain ⟨ib, hib⟩ : ∃ x, (lookF inboxT S.fs).isSome = x := ⟨_, rfl⟩
      have CH := hasI inboxT wr M _ (by decide) (by show u.size ≤ 1048576; omega) hD' ib (hV'.some inboxT ib hib)
      have HD' : Hid (DeskAt wr M ⟨a, k, c, va', S.aside, nx, u, S.word, X'⟩) := hD'
      obtain ⟨t, ht⟩ : ∃ t, sumF S.fs = t := ⟨_, rfl⟩
      have HT : Hid (leftSum #[] X' = t) := by show _ = _; rw [sum_view hV', ht]
      have htk : t ≤ 60 := by have h9 := hsm.out; omega
      rw [hib, ht] at HB9
      clear hD' hV' hN' hF' hA' hst hsm hib ht
      cases ib with
      | false =>
        have HZ : Hid (false = bb) := HB9
        go_wp2_with fail
        refine CH.mono ?_
        rintro e w5 ⟨rfl, hb5⟩
        have HE := HEND.out _ hb5
        have HE2 : Hid (_ ∧ _) := HE
        clear HE hb5
        go_wp2_with fail
        go_ret
        exact ⟨ret_bool HZ.out, HE2.out.1, HE2.out.2⟩
      | true =>
        have HZ : Hid (decide (t ≤ 6) = bb) := HB9
        go_wp2_with fail
        refine CH.mono ?_
        rintro e w5 ⟨rfl, hb5⟩
        have H5 : Hid (Below wr.heap.size wr w5) := hb5
        have CM := mailsI w5 M _ (HD'.out.later hb5) t HT.out (by omega)
        clear hb5
        go_wp2_with fail
        refine CM.mono ?_
        rintro e w6 ⟨rfl, hb6⟩
        have HE := HEND.out _ (H5.out.trans (hb6.mono H5.out.size))
        have HE2 : Hid (_ ∧ _) := HE
        clear HE hb6
        by_cases h6 : t ≤ 6
        · have h6i : (t : Int) ≤ 6 := by omega
          rw [decide_eq_true h6] at HZ
          go_wp2_with fail
          go_ret
          exact ⟨ret_bool HZ.out, HE2.out.1, HE2.out.2⟩
        · have h6i : ¬ (t : Int) ≤ 6 := by omega
          rw [decide_eq_false h6] at HZ
          go_wp2_with fail
          go_ret
          exact ⟨ret_bool (by rw [decide_eq_false (by omega)]; exact HZ.out), HE2.out.1, HE2.out.2⟩
end Go.Proofs.YthgbclipknfmjaaGreatDoor
