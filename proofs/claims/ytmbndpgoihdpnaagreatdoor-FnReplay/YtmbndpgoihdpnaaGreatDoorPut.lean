
/-
  Contracts of both PairPut and of the helpers that copy lists of pairs. By an AI agent.
-/
import Derived.Test.YtmbndpgoihdpnaaGreatDoorOwned
import Derived.Test.YtmbndpgoihdpnaaGreatDoorPairGeti
namespace Go.Proofs.YtmbndpgoihdpnaaGreatDoor
open Go.ChangeShapes Go.WideShapes Go.ChangeAt Go.RowKit Go.Deep
set_option linter.unusedVariables false
set_option maxRecDepth 100000

/-- The pairs L lie at a place. -/
def SrcP (w : World) (b o : Nat) (L : List (ByteArray × ByteArray)) : Prop :=
  ∀ i, i < L.length → w.cell? ⟨b, o + i * 2, none⟩ = some (.string (fstL L i)) ∧ w.cell? ⟨b, o + i * 2 + 1, none⟩ = some (.string (sndL L i))
theorem SrcP.below {w w' : World} {b o : Nat} {L : List (ByteArray × ByteArray)} (h : SrcP w b o L) (hb : Below w.heap.size w w') : SrcP w' b o L := fun i hi => by
  obtain ⟨h1, h2⟩ := h i hi
  exact ⟨cell_later hb h1, cell_later hb h2⟩
theorem SrcP.take {w : World} {b o : Nat} {L : List (ByteArray × ByteArray)} (h : SrcP w b o L) (l : Nat) : SrcP w b o (L.take l) := fun i hi => by
  rw [List.length_take] at hi
  have h1 := h i (by omega)
  have e : (L.take l).getD i pe = L.getD i pe := by rw [List.getD_eq_getElem?_getD, List.getElem?_take, if_pos (by omega), ← List.getD_eq_getElem?_getD]
  unfold fstL sndL at *
  rw [e]; exact h1
theorem SrcP.drop {w : World} {b o : Nat} {L : List (ByteArray × ByteArray)} (h : SrcP w b o L) (l : Nat) : SrcP w b (o + l * 2) (L.drop l) := fun i hi => by
  rw [List.length_drop] at hi
  have h1 := h (l + i) (by omega)
  have e : (L.drop l).getD i pe = L.getD (l + i) pe := by rw [List.getD_eq_getElem?_getD, List.getElem?_drop, ← List.getD_eq_getElem?_getD]
  unfold fstL sndL at *
  rw [e, show o + l * 2 + i * 2 = o + (l + i) * 2 from by omega]; exact h1
theorem SrcP.news {w : World} {b o : Nat} {L : List (ByteArray × ByteArray)} (h : SrcP w b o L) : ∀ j u, (cellsP L)[j]? = some u → w.cell? ((⟨b, o, none⟩ : Addr).add j) = some u := fun j u hu => by
  have hj : j < (cellsP L).length := (List.getElem?_eq_some_iff.1 hu).1
  rw [cellsP_length] at hj
  rw [add_plain]
  obtain ⟨c1, c2⟩ := cellsP_get L (j / 2) (by omega)
  obtain ⟨h1, h2⟩ := h (j / 2) (by omega)
  by_cases e : j % 2 = 0
  · rw [show j / 2 * 2 = j from by omega] at c1 h1
    rw [hu] at c1; rw [h1]; exact c1.symm
  · rw [show j / 2 * 2 + 1 = j from by omega] at c2
    rw [show o + j / 2 * 2 + 1 = o + j from by omega] at h2
    rw [hu] at c2; rw [h2]; exact c2.symm
def listP (f g : Nat → ByteArray) (n : Nat) : List (ByteArray × ByteArray) := (List.range n).map fun i => (f i, g i)
theorem listP_length (f g : Nat → ByteArray) (n : Nat) : (listP f g n).length = n := by simp [listP]
theorem listP_get (f g : Nat → ByteArray) (n i : Nat) (h : i < n) : (listP f g n).getD i pe = (f i, g i) := by
  rw [List.getD_eq_getElem?_getD]; simp [listP, h]
theorem src_of {w : World} {b o n : Nat} {f g : Nat → ByteArray} (h : Sp w (some ⟨b, o, none⟩) n f g) : SrcP w b o (listP f g n) := fun i hi => by
  rw [listP_length] at hi
  rcases h with h0 | ⟨b', o', e, hc⟩
  · omega
  · cases e
    have h1 := hc i hi
    unfold fstL sndL
    rw [listP_get f g n i hi]; exact h1
/-- A list that is given to append, written behind what is owned. -/
theorem OwnsP.more {w' : World} {base : Nat} {v' : Value} {L M : List (ByteArray × ByteArray)} {m : Nat} (hm : M.length = m) (h : w'.ownsRow base 70 2 v' (L.length + m) (cellsP L ++ cellsP M)) : OwnsP w' base v' (L ++ M) := by
  unfold OwnsP
  rw [List.length_append, cellsP_append, hm]; exact h

theorem OwnsP.one {w' : World} {base : Nat} {v' : Value} {L : List (ByteArray × ByteArray)} {x y : ByteArray} (h : w'.ownsRow base 70 2 v' (L.length + 1) (cellsP L ++ [.string x, .string y])) : OwnsP w' base v' (L ++ [(x, y)]) :=
  OwnsP.more (M := [(x, y)]) (m := 1) rfl h
theorem OwnsP.mk {w' : World} {base : Nat} {v' : Value} {L : List (ByteArray × ByteArray)} {m : Nat} (hm : (cellsP L).length = m * 2) (h : w'.ownsRow base 70 2 v' m (cellsP L)) : OwnsP w' base v' L := by
  unfold OwnsP
  rw [cellsP_length] at hm
  rw [show L.length = m from by omega]; exact h
theorem two_newP (wr : World) (x y : ByteArray) (j : Nat) (u : Value) (h : [Value.string x, .string y][j]? = some u) :
    (wr.alloc (.cells #[.string x, .string y] 70)).cell? ((⟨wr.heap.size, 0, none⟩ : Addr).add j) = some u := by
  match j, h with
  | 0, h => simp at h; subst h; simp [Addr.add]
  | 1, h => simp at h; subst h; simp [Addr.add]

set_option maxHeartbeats 400000 in
theorem copyPairs (b o m c : Nat) (L : List (ByteArray × ByteArray)) (w : World) (hm : L.length = m) (hm1 : m ≤ 1048576) (h : SrcP w b o L) :
    Calls Tryz.prog 45 #[.slice (some ⟨b, o, none⟩) m c] w fun e w' => ∃ v, e = .returned v ∧ OwnsP w' w.heap.size v L ∧ Below w.heap.size w w' := by
  obtain ⟨i0, hi, hz0, hz1, hz2⟩ := infoPair'
  have HH : Hid (SrcP w b o L) := h
  have HM : Hid (L.length = m) := hm
  have HI : Hid (Tryz.prog.info? 70 = some i0) := hi
  have HZ0 : Hid (i0.zero = some (.agg #[.string ⟨#[]⟩, .string ⟨#[]⟩])) := hz0
  have HZ1 : Hid (i0.size = 2) := hz1
  have HZ2 : Hid (i0.bytes = 32) := hz2
  clear h hm hi hz0 hz1 hz2
  go_enter Tryz.func45, Tryz.ntmps45
  go_wp2_with (at_builtin; refine wpList_append_own _ rfl _ _ 28 rfl w.heap.size 70 i0 (.agg #[.string ⟨#[]⟩, .string ⟨#[]⟩]) 2 32 Tryz.underlying28 HI.out HZ0.out HZ1.out HZ2.out rfl (by decide) _ 0 [] rfl (World.ownsRow_nil _ _ _ _) ⟨b, o, none⟩ m c (cellsP L) rfl (by rw [cellsP_length, HM.out]) HH.out.news (cellsP_one L) (by unfold maxLen; omega) (by omega) (Nat.le_refl _) ?_)
  intro v' w1 hown hgrow _
  have HO : Hid (OwnsP w1 w.heap.size v' L) := by
    show OwnsP w1 w.heap.size v' L
    unfold OwnsP; rw [HM.out]; exact hown
  have HB : Hid (Below w.heap.size w w1) := (Below.refl _ _).grown hgrow (Nat.le_refl _) (fun k e => by cases e)
  clear hown hgrow
  go_wp2_with fail
  go_ret
  exact ⟨_, rfl, HO.out, HB.out⟩

/-- What put leaves: val at key. -/
def putL (f g : Nat → ByteArray) (n : Nat) (key val : ByteArray) (p : Nat) : List (ByteArray × ByteArray) :=
  (listP f g n).take p ++ [(key, val)] ++ (listP f g n).drop (if hitB f n key p = true then p + 1 else p)
/-- Where the rest of a list begins. -/
def restO (o n q : Nat) : Nat := if n = q then o else o + q * 2
theorem rest_src {w : World} {b o n : Nat} {L : List (ByteArray × ByteArray)} (h : SrcP w b o L) (hl : L.length = n) (q : Nat) (hq : q ≤ n) : SrcP w b (restO o n q) (L.drop q) := by
  unfold restO
  by_cases e : n = q
  · intro i hi
    rw [List.length_drop] at hi
    omega
  · rw [if_neg e]; exact h.drop q

set_option maxHeartbeats 1000000 in
theorem l01Put (b o n : Nat) (f g : Nat → ByteArray) (key val : ByteArray) (p : Nat) (w : World) (hn : n ≤ 4096) (hp : IsPlace f n key p) (h : Sp w (some ⟨b, o, none⟩) n f g) :
    Calls Tryz.prog 88 #[.slice (some ⟨b, o, none⟩) n n, .string key, .string val] w fun e w' => ∃ v, e = .returned v ∧ OwnsP w' w.heap.size v (putL f g n key val p) ∧ Below w.heap.size w w' := by
  obtain ⟨i0, hi, hz0, hz1, hz2⟩ := infoPair'
  have HH : Hid (Sp w (some ⟨b, o, none⟩) n f g) := h
  have HP : Hid (IsPlace f n key p) := hp
  have HI : Hid (Tryz.prog.info? 70 = some i0) := hi
  have HZ0 : Hid (i0.zero = some (.agg #[.string ⟨#[]⟩, .string ⟨#[]⟩])) := hz0
  have HZ1 : Hid (i0.size = 2) := hz1
  have HZ2 : Hid (i0.bytes = 32) := hz2
  have hpn := hp.1
  clear h hp hi hz0 hz1 hz2
  by_cases hn0 : n = 0
  · subst hn0
    have hp0 : p = 0 := by omega
    subst hp0
    have HT : Hid (hitB f 0 key 0 = false) := by show hitB f 0 key 0 = false; rfl
    have T0 : Hid (((listP f g 0).take 0).length = 0) := by show ((listP f g 0).take 0).length = 0; have := List.length_take (i := 0) (l := listP f g 0); rw [listP_length] at this; omega
    have T1 : Hid ((cellsP ((listP f g 0).take 0)).length = 0 * 2) := by show (cellsP ((listP f g 0).take 0)).length = 0 * 2; rw [cellsP_length, T0.out]
    have T2 : Hid (((listP f g 0).take 0).length = 0) := T0
    have T5 : Hid (((listP f g 0).drop 0).length = 0) := by show ((listP f g 0).drop 0).length = 0; have := List.length_drop (i := 0) (l := listP f g 0); rw [listP_length] at this; omega
    have T3 : Hid ((cellsP ((listP f g 0).drop 0)).length = 0 * 2) := by show (cellsP ((listP f g 0).drop 0)).length = 0 * 2; rw [cellsP_length, T5.out]
    have T4 : Hid (((listP f g 0).take 0 ++ [(key, val)]).length = 0 + 1) := by show ((listP f g 0).take 0 ++ [(key, val)]).length = 0 + 1; rw [List.length_append, T0.out]; rfl
    have Q1 : Hid (((listP f g 0).take 0).length + 1 ≤ maxLen) := by show ((listP f g 0).take 0).length + 1 ≤ maxLen; rw [T0.out]; unfold maxLen; omega
    have Q2 : Hid ((((listP f g 0).take 0).length + 1) * 32 ≤ 140737488355328) := by show (((listP f g 0).take 0).length + 1) * 32 ≤ 140737488355328; rw [T0.out]; omega
    have Q3 : Hid (((listP f g 0).take 0 ++ [(key, val)]).length + 0 ≤ maxLen) := by show ((listP f g 0).take 0 ++ [(key, val)]).length + 0 ≤ maxLen; rw [T4.out]; unfold maxLen; omega
    have Q4 : Hid ((((listP f g 0).take 0 ++ [(key, val)]).length + 0) * 32 ≤ 140737488355328) := by show (((listP f g 0).take 0 ++ [(key, val)]).length + 0) * 32 ≤ 140737488355328; rw [T4.out]; omega
    have S0 : Hid (SrcP w b o (listP f g 0)) := src_of HH.out
    have N1 : Hid (∀ j u, (cellsP ((listP f g 0).take 0))[j]? = some u → (w.alloc (.cells #[] 70)).cell? ((⟨b, o, none⟩ : Addr).add j) = some u) := ((S0.out.take 0).below ((Below.refl _ _).alloc (Nat.le_refl _) _)).news
    have N3 : Hid (SrcP w b o ((listP f g 0).drop 0)) := by
      have h9 := rest_src S0.out (listP_length f g 0) 0 (by omega)
      unfold restO at h9
      first | (rw [if_pos (by omega)] at h9; exact h9) | (rw [if_neg (by omega)] at h9; exact h9)
    have EL : Hid (putL f g 0 key val 0 = (listP f g 0).take 0 ++ [(key, val)] ++ (listP f g 0).drop 0) := by show putL f g 0 key val 0 = _; unfold putL; rw [HT.out]; rfl
    go_enter Tryz.func88, Tryz.ntmps88
    go_wp2_with (first | (go_at_call 119; refine (l01At _ 0 0 f g key 0 _ (by omega) HP.out HH.out).mono ?_; rintro e w' ⟨rfl, rfl⟩) | (at_builtin; refine wpList_append_own _ rfl (.tmp 41) (.tmp 42) 28 rfl w.heap.size 70 i0 (.agg #[.string ⟨#[]⟩, .string ⟨#[]⟩]) 2 32 Tryz.underlying28 HI.out HZ0.out HZ1.out HZ2.out rfl (by decide) _ _ _ rfl O2.out ⟨b, o, none⟩ 0 0 (cellsP ((listP f g 0).drop 0)) rfl T3.out (N3.out.below B2.out).news (cellsP_one _) Q3.out Q4.out B2.out.size ?_; intro v3 w3 hown3 hgrow3 _; have B3 : Hid (Below w.heap.size w w3) := B2.out.grown hgrow3 B2.out.size O2.out.block; have O3 : Hid (OwnsP w3 w.heap.size v3 ((listP f g 0).take 0 ++ [(key, val)] ++ (listP f g 0).drop 0)) := OwnsP.more T5.out hown3; clear hown3 hgrow3) | (at_builtin; refine wpList_append_own _ rfl (.tmp 36) (.tmp 40) 28 rfl w.heap.size 70 i0 (.agg #[.string ⟨#[]⟩, .string ⟨#[]⟩]) 2 32 Tryz.underlying28 HI.out HZ0.out HZ1.out HZ2.out rfl (by decide) _ _ _ rfl (O1.out.alloc _) ⟨w1.heap.size, 0, none⟩ 1 1 [.string key, .string val] rfl rfl (two_newP w1 key val) (two_oneP key val) Q1.out Q2.out (le_alloc B1.out.size _) ?_; intro v2 w2 hown2 hgrow2 _; have B2 : Hid (Below w.heap.size w w2) := (B1.out.alloc B1.out.size _).grown hgrow2 (le_alloc B1.out.size _) O1.out.block; have O2 : Hid (OwnsP w2 w.heap.size v2 ((listP f g 0).take 0 ++ [(key, val)])) := OwnsP.one hown2; clear hown2 hgrow2) | (at_builtin; refine wpList_append_own _ rfl (.tmp 32) (.tmp 35) 28 rfl w.heap.size 70 i0 (.agg #[.string ⟨#[]⟩, .string ⟨#[]⟩]) 2 32 Tryz.underlying28 HI.out HZ0.out HZ1.out HZ2.out rfl (by decide) _ 0 [] rfl (OwnsP.made w _ (Nat.le_refl _)) ⟨b, o, none⟩ 0 0 (cellsP ((listP f g 0).take 0)) rfl T1.out N1.out (cellsP_one _) (by unfold maxLen; omega) (by omega) (by simp) ?_; intro v1 w1 hown1 hgrow1 _; have B1 : Hid (Below w.heap.size w w1) := ((Below.refl _ _).alloc (Nat.le_refl _) _).grown hgrow1 (by simp) (fun k e => by cases e; exact Nat.le_refl _); have O1 : Hid (OwnsP w1 w.heap.size v1 ((listP f g 0).take 0)) := OwnsP.mk T1.out (by simpa using hown1); clear hown1 hgrow1))
    go_ret
    exact ⟨_, rfl, by rw [EL.out]; exact O3.out, B3.out⟩
  by_cases hlt : p < n
  · have hne : ¬ n = p := by omega
    have hi1 : (p : Int) < (n : Int) := by omega
    rcases HH.out with h0 | ⟨b', o', e, hc⟩
    · omega
    cases e
    obtain ⟨hc1, hc2⟩ := hc p hlt
    clear hc hc2
    cases hq : ((f p).toList == key.toList) with
    | false =>
      have HT : Hid (hitB f n key p = false) := by show hitB f n key p = false; unfold hitB; rw [hq, decide_eq_true hlt]; rfl
      have T0 : Hid (((listP f g n).take p).length = p) := by show ((listP f g n).take p).length = p; have := List.length_take (i := p) (l := listP f g n); rw [listP_length] at this; omega
      have T1 : Hid ((cellsP ((listP f g n).take p)).length = p * 2) := by show (cellsP ((listP f g n).take p)).length = p * 2; rw [cellsP_length, T0.out]
      have T2 : Hid (((listP f g n).take p).length = p) := T0
      have T5 : Hid (((listP f g n).drop p).length = (n - p)) := by show ((listP f g n).drop p).length = (n - p); have := List.length_drop (i := p) (l := listP f g n); rw [listP_length] at this; omega
      have T3 : Hid ((cellsP ((listP f g n).drop p)).length = (n - p) * 2) := by show (cellsP ((listP f g n).drop p)).length = (n - p) * 2; rw [cellsP_length, T5.out]
      have T4 : Hid (((listP f g n).take p ++ [(key, val)]).length = p + 1) := by show ((listP f g n).take p ++ [(key, val)]).length = p + 1; rw [List.length_append, T0.out]; rfl
      have Q1 : Hid (((listP f g n).take p).length + 1 ≤ maxLen) := by show ((listP f g n).take p).length + 1 ≤ maxLen; rw [T0.out]; unfold maxLen; omega
      have Q2 : Hid ((((listP f g n).take p).length + 1) * 32 ≤ 140737488355328) := by show (((listP f g n).take p).length + 1) * 32 ≤ 140737488355328; rw [T0.out]; omega
      have Q3 : Hid (((listP f g n).take p ++ [(key, val)]).length + (n - p) ≤ maxLen) := by show ((listP f g n).take p ++ [(key, val)]).length + (n - p) ≤ maxLen; rw [T4.out]; unfold maxLen; omega
      have Q4 : Hid ((((listP f g n).take p ++ [(key, val)]).length + (n - p)) * 32 ≤ 140737488355328) := by show (((listP f g n).take p ++ [(key, val)]).length + (n - p)) * 32 ≤ 140737488355328; rw [T4.out]; omega
      have S0 : Hid (SrcP w b o (listP f g n)) := src_of HH.out
      have N1 : Hid (∀ j u, (cellsP ((listP f g n).take p))[j]? = some u → (w.alloc (.cells #[] 70)).cell? ((⟨b, o, none⟩ : Addr).add j) = some u) := ((S0.out.take p).below ((Below.refl _ _).alloc (Nat.le_refl _) _)).news
      have N3 : Hid (SrcP w b (o + p * 2) ((listP f g n).drop p)) := by
        have h9 := rest_src S0.out (listP_length f g n) p (by omega)
        unfold restO at h9
        first | (rw [if_pos (by omega)] at h9; exact h9) | (rw [if_neg (by omega)] at h9; exact h9)
      have EL : Hid (putL f g n key val p = (listP f g n).take p ++ [(key, val)] ++ (listP f g n).drop p) := by show putL f g n key val p = _; unfold putL; rw [HT.out]; rfl
      go_enter Tryz.func88, Tryz.ntmps88
      go_wp2_with (first | (go_at_call 119; refine (l01At _ n n f g key p _ (by omega) HP.out HH.out).mono ?_; rintro e w' ⟨rfl, rfl⟩) | (at_builtin; refine wpList_append_own _ rfl (.tmp 41) (.tmp 42) 28 rfl w.heap.size 70 i0 (.agg #[.string ⟨#[]⟩, .string ⟨#[]⟩]) 2 32 Tryz.underlying28 HI.out HZ0.out HZ1.out HZ2.out rfl (by decide) _ _ _ rfl O2.out ⟨b, (o + p * 2), none⟩ (n - p) (n - p) (cellsP ((listP f g n).drop p)) rfl T3.out (N3.out.below B2.out).news (cellsP_one _) Q3.out Q4.out B2.out.size ?_; intro v3 w3 hown3 hgrow3 _; have B3 : Hid (Below w.heap.size w w3) := B2.out.grown hgrow3 B2.out.size O2.out.block; have O3 : Hid (OwnsP w3 w.heap.size v3 ((listP f g n).take p ++ [(key, val)] ++ (listP f g n).drop p)) := OwnsP.more T5.out hown3; clear hown3 hgrow3) | (at_builtin; refine wpList_append_own _ rfl (.tmp 36) (.tmp 40) 28 rfl w.heap.size 70 i0 (.agg #[.string ⟨#[]⟩, .string ⟨#[]⟩]) 2 32 Tryz.underlying28 HI.out HZ0.out HZ1.out HZ2.out rfl (by decide) _ _ _ rfl (O1.out.alloc _) ⟨w1.heap.size, 0, none⟩ 1 1 [.string key, .string val] rfl rfl (two_newP w1 key val) (two_oneP key val) Q1.out Q2.out (le_alloc B1.out.size _) ?_; intro v2 w2 hown2 hgrow2 _; have B2 : Hid (Below w.heap.size w w2) := (B1.out.alloc B1.out.size _).grown hgrow2 (le_alloc B1.out.size _) O1.out.block; have O2 : Hid (OwnsP w2 w.heap.size v2 ((listP f g n).take p ++ [(key, val)])) := OwnsP.one hown2; clear hown2 hgrow2) | (at_builtin; refine wpList_append_own _ rfl (.tmp 32) (.tmp 35) 28 rfl w.heap.size 70 i0 (.agg #[.string ⟨#[]⟩, .string ⟨#[]⟩]) 2 32 Tryz.underlying28 HI.out HZ0.out HZ1.out HZ2.out rfl (by decide) _ 0 [] rfl (OwnsP.made w _ (Nat.le_refl _)) ⟨b, o, none⟩ p n (cellsP ((listP f g n).take p)) rfl T1.out N1.out (cellsP_one _) (by unfold maxLen; omega) (by omega) (by simp) ?_; intro v1 w1 hown1 hgrow1 _; have B1 : Hid (Below w.heap.size w w1) := ((Below.refl _ _).alloc (Nat.le_refl _) _).grown hgrow1 (by simp) (fun k e => by cases e; exact Nat.le_refl _); have O1 : Hid (OwnsP w1 w.heap.size v1 ((listP f g n).take p)) := OwnsP.mk T1.out (by simpa using hown1); clear hown1 hgrow1))
      go_ret
      exact ⟨_, rfl, by rw [EL.out]; exact O3.out, B3.out⟩
    | true =>
      have HT : Hid (hitB f n key p = true) := by show hitB f n key p = true; unfold hitB; rw [hq, decide_eq_true hlt]; rfl
      by_cases hlast : n = p + 1
      · subst hlast
        have T0 : Hid (((listP f g (p + 1)).take p).length = p) := by show ((listP f g (p + 1)).take p).length = p; have := List.length_take (i := p) (l := listP f g (p + 1)); rw [listP_length] at this; omega
        have T1 : Hid ((cellsP ((listP f g (p + 1)).take p)).length = p * 2) := by show (cellsP ((listP f g (p + 1)).take p)).length = p * 2; rw [cellsP_length, T0.out]
        have T2 : Hid (((listP f g (p + 1)).take p).length = p) := T0
        have T5 : Hid (((listP f g (p + 1)).drop (p + 1)).length = 0) := by show ((listP f g (p + 1)).drop (p + 1)).length = 0; have := List.length_drop (i := (p + 1)) (l := listP f g (p + 1)); rw [listP_length] at this; omega
        have T3 : Hid ((cellsP ((listP f g (p + 1)).drop (p + 1))).length = 0 * 2) := by show (cellsP ((listP f g (p + 1)).drop (p + 1))).length = 0 * 2; rw [cellsP_length, T5.out]
        have T4 : Hid (((listP f g (p + 1)).take p ++ [(key, val)]).length = p + 1) := by show ((listP f g (p + 1)).take p ++ [(key, val)]).length = p + 1; rw [List.length_append, T0.out]; rfl
        have Q1 : Hid (((listP f g (p + 1)).take p).length + 1 ≤ maxLen) := by show ((listP f g (p + 1)).take p).length + 1 ≤ maxLen; rw [T0.out]; unfold maxLen; omega
        have Q2 : Hid ((((listP f g (p + 1)).take p).length + 1) * 32 ≤ 140737488355328) := by show (((listP f g (p + 1)).take p).length + 1) * 32 ≤ 140737488355328; rw [T0.out]; omega
        have Q3 : Hid (((listP f g (p + 1)).take p ++ [(key, val)]).length + 0 ≤ maxLen) := by show ((listP f g (p + 1)).take p ++ [(key, val)]).length + 0 ≤ maxLen; rw [T4.out]; unfold maxLen; omega
        have Q4 : Hid ((((listP f g (p + 1)).take p ++ [(key, val)]).length + 0) * 32 ≤ 140737488355328) := by show (((listP f g (p + 1)).take p ++ [(key, val)]).length + 0) * 32 ≤ 140737488355328; rw [T4.out]; omega
        have S0 : Hid (SrcP w b o (listP f g (p + 1))) := src_of HH.out
        have N1 : Hid (∀ j u, (cellsP ((listP f g (p + 1)).take p))[j]? = some u → (w.alloc (.cells #[] 70)).cell? ((⟨b, o, none⟩ : Addr).add j) = some u) := ((S0.out.take p).below ((Below.refl _ _).alloc (Nat.le_refl _) _)).news
        have N3 : Hid (SrcP w b o ((listP f g (p + 1)).drop (p + 1))) := by
          have h9 := rest_src S0.out (listP_length f g (p + 1)) (p + 1) (by omega)
          unfold restO at h9
          first | (rw [if_pos (by omega)] at h9; exact h9) | (rw [if_neg (by omega)] at h9; exact h9)
        have EL : Hid (putL f g (p + 1) key val p = (listP f g (p + 1)).take p ++ [(key, val)] ++ (listP f g (p + 1)).drop (p + 1)) := by show putL f g (p + 1) key val p = _; unfold putL; rw [HT.out]; rfl
        go_enter Tryz.func88, Tryz.ntmps88
        go_wp2_with (first | (go_at_call 119; refine (l01At _ (p + 1) (p + 1) f g key p _ (by omega) HP.out HH.out).mono ?_; rintro e w' ⟨rfl, rfl⟩) | (at_builtin; refine wpList_append_own _ rfl (.tmp 41) (.tmp 42) 28 rfl w.heap.size 70 i0 (.agg #[.string ⟨#[]⟩, .string ⟨#[]⟩]) 2 32 Tryz.underlying28 HI.out HZ0.out HZ1.out HZ2.out rfl (by decide) _ _ _ rfl O2.out ⟨b, o, none⟩ 0 0 (cellsP ((listP f g (p + 1)).drop (p + 1))) rfl T3.out (N3.out.below B2.out).news (cellsP_one _) Q3.out Q4.out B2.out.size ?_; intro v3 w3 hown3 hgrow3 _; have B3 : Hid (Below w.heap.size w w3) := B2.out.grown hgrow3 B2.out.size O2.out.block; have O3 : Hid (OwnsP w3 w.heap.size v3 ((listP f g (p + 1)).take p ++ [(key, val)] ++ (listP f g (p + 1)).drop (p + 1))) := OwnsP.more T5.out hown3; clear hown3 hgrow3) | (at_builtin; refine wpList_append_own _ rfl (.tmp 36) (.tmp 40) 28 rfl w.heap.size 70 i0 (.agg #[.string ⟨#[]⟩, .string ⟨#[]⟩]) 2 32 Tryz.underlying28 HI.out HZ0.out HZ1.out HZ2.out rfl (by decide) _ _ _ rfl (O1.out.alloc _) ⟨w1.heap.size, 0, none⟩ 1 1 [.string key, .string val] rfl rfl (two_newP w1 key val) (two_oneP key val) Q1.out Q2.out (le_alloc B1.out.size _) ?_; intro v2 w2 hown2 hgrow2 _; have B2 : Hid (Below w.heap.size w w2) := (B1.out.alloc B1.out.size _).grown hgrow2 (le_alloc B1.out.size _) O1.out.block; have O2 : Hid (OwnsP w2 w.heap.size v2 ((listP f g (p + 1)).take p ++ [(key, val)])) := OwnsP.one hown2; clear hown2 hgrow2) | (at_builtin; refine wpList_append_own _ rfl (.tmp 32) (.tmp 35) 28 rfl w.heap.size 70 i0 (.agg #[.string ⟨#[]⟩, .string ⟨#[]⟩]) 2 32 Tryz.underlying28 HI.out HZ0.out HZ1.out HZ2.out rfl (by decide) _ 0 [] rfl (OwnsP.made w _ (Nat.le_refl _)) ⟨b, o, none⟩ p (p + 1) (cellsP ((listP f g (p + 1)).take p)) rfl T1.out N1.out (cellsP_one _) (by unfold maxLen; omega) (by omega) (by simp) ?_; intro v1 w1 hown1 hgrow1 _; have B1 : Hid (Below w.heap.size w w1) := ((Below.refl _ _).alloc (Nat.le_refl _) _).grown hgrow1 (by simp) (fun k e => by cases e; exact Nat.le_refl _); have O1 : Hid (OwnsP w1 w.heap.size v1 ((listP f g (p + 1)).take p)) := OwnsP.mk T1.out (by simpa using hown1); clear hown1 hgrow1))
        go_ret
        exact ⟨_, rfl, by rw [EL.out]; exact O3.out, B3.out⟩
      · have hne2 : ¬ n = p + 1 := hlast
        have T0 : Hid (((listP f g n).take p).length = p) := by show ((listP f g n).take p).length = p; have := List.length_take (i := p) (l := listP f g n); rw [listP_length] at this; omega
        have T1 : Hid ((cellsP ((listP f g n).take p)).length = p * 2) := by show (cellsP ((listP f g n).take p)).length = p * 2; rw [cellsP_length, T0.out]
        have T2 : Hid (((listP f g n).take p).length = p) := T0
        have T5 : Hid (((listP f g n).drop (p + 1)).length = (n - (p + 1))) := by show ((listP f g n).drop (p + 1)).length = (n - (p + 1)); have := List.length_drop (i := (p + 1)) (l := listP f g n); rw [listP_length] at this; omega
        have T3 : Hid ((cellsP ((listP f g n).drop (p + 1))).length = (n - (p + 1)) * 2) := by show (cellsP ((listP f g n).drop (p + 1))).length = (n - (p + 1)) * 2; rw [cellsP_length, T5.out]
        have T4 : Hid (((listP f g n).take p ++ [(key, val)]).length = p + 1) := by show ((listP f g n).take p ++ [(key, val)]).length = p + 1; rw [List.length_append, T0.out]; rfl
        have Q1 : Hid (((listP f g n).take p).length + 1 ≤ maxLen) := by show ((listP f g n).take p).length + 1 ≤ maxLen; rw [T0.out]; unfold maxLen; omega
        have Q2 : Hid ((((listP f g n).take p).length + 1) * 32 ≤ 140737488355328) := by show (((listP f g n).take p).length + 1) * 32 ≤ 140737488355328; rw [T0.out]; omega
        have Q3 : Hid (((listP f g n).take p ++ [(key, val)]).length + (n - (p + 1)) ≤ maxLen) := by show ((listP f g n).take p ++ [(key, val)]).length + (n - (p + 1)) ≤ maxLen; rw [T4.out]; unfold maxLen; omega
        have Q4 : Hid ((((listP f g n).take p ++ [(key, val)]).length + (n - (p + 1))) * 32 ≤ 140737488355328) := by show (((listP f g n).take p ++ [(key, val)]).length + (n - (p + 1))) * 32 ≤ 140737488355328; rw [T4.out]; omega
        have S0 : Hid (SrcP w b o (listP f g n)) := src_of HH.out
        have N1 : Hid (∀ j u, (cellsP ((listP f g n).take p))[j]? = some u → (w.alloc (.cells #[] 70)).cell? ((⟨b, o, none⟩ : Addr).add j) = some u) := ((S0.out.take p).below ((Below.refl _ _).alloc (Nat.le_refl _) _)).news
        have N3 : Hid (SrcP w b (o + (p + 1) * 2) ((listP f g n).drop (p + 1))) := by
          have h9 := rest_src S0.out (listP_length f g n) (p + 1) (by omega)
          unfold restO at h9
          first | (rw [if_pos (by omega)] at h9; exact h9) | (rw [if_neg (by omega)] at h9; exact h9)
        have EL : Hid (putL f g n key val p = (listP f g n).take p ++ [(key, val)] ++ (listP f g n).drop (p + 1)) := by show putL f g n key val p = _; unfold putL; rw [HT.out]; rfl
        go_enter Tryz.func88, Tryz.ntmps88
        go_wp2_with (first | (go_at_call 119; refine (l01At _ n n f g key p _ (by omega) HP.out HH.out).mono ?_; rintro e w' ⟨rfl, rfl⟩) | (at_builtin; refine wpList_append_own _ rfl (.tmp 41) (.tmp 42) 28 rfl w.heap.size 70 i0 (.agg #[.string ⟨#[]⟩, .string ⟨#[]⟩]) 2 32 Tryz.underlying28 HI.out HZ0.out HZ1.out HZ2.out rfl (by decide) _ _ _ rfl O2.out ⟨b, (o + (p + 1) * 2), none⟩ (n - (p + 1)) (n - (p + 1)) (cellsP ((listP f g n).drop (p + 1))) rfl T3.out (N3.out.below B2.out).news (cellsP_one _) Q3.out Q4.out B2.out.size ?_; intro v3 w3 hown3 hgrow3 _; have B3 : Hid (Below w.heap.size w w3) := B2.out.grown hgrow3 B2.out.size O2.out.block; have O3 : Hid (OwnsP w3 w.heap.size v3 ((listP f g n).take p ++ [(key, val)] ++ (listP f g n).drop (p + 1))) := OwnsP.more T5.out hown3; clear hown3 hgrow3) | (at_builtin; refine wpList_append_own _ rfl (.tmp 36) (.tmp 40) 28 rfl w.heap.size 70 i0 (.agg #[.string ⟨#[]⟩, .string ⟨#[]⟩]) 2 32 Tryz.underlying28 HI.out HZ0.out HZ1.out HZ2.out rfl (by decide) _ _ _ rfl (O1.out.alloc _) ⟨w1.heap.size, 0, none⟩ 1 1 [.string key, .string val] rfl rfl (two_newP w1 key val) (two_oneP key val) Q1.out Q2.out (le_alloc B1.out.size _) ?_; intro v2 w2 hown2 hgrow2 _; have B2 : Hid (Below w.heap.size w w2) := (B1.out.alloc B1.out.size _).grown hgrow2 (le_alloc B1.out.size _) O1.out.block; have O2 : Hid (OwnsP w2 w.heap.size v2 ((listP f g n).take p ++ [(key, val)])) := OwnsP.one hown2; clear hown2 hgrow2) | (at_builtin; refine wpList_append_own _ rfl (.tmp 32) (.tmp 35) 28 rfl w.heap.size 70 i0 (.agg #[.string ⟨#[]⟩, .string ⟨#[]⟩]) 2 32 Tryz.underlying28 HI.out HZ0.out HZ1.out HZ2.out rfl (by decide) _ 0 [] rfl (OwnsP.made w _ (Nat.le_refl _)) ⟨b, o, none⟩ p n (cellsP ((listP f g n).take p)) rfl T1.out N1.out (cellsP_one _) (by unfold maxLen; omega) (by omega) (by simp) ?_; intro v1 w1 hown1 hgrow1 _; have B1 : Hid (Below w.heap.size w w1) := ((Below.refl _ _).alloc (Nat.le_refl _) _).grown hgrow1 (by simp) (fun k e => by cases e; exact Nat.le_refl _); have O1 : Hid (OwnsP w1 w.heap.size v1 ((listP f g n).take p)) := OwnsP.mk T1.out (by simpa using hown1); clear hown1 hgrow1))
        go_ret
        exact ⟨_, rfl, by rw [EL.out]; exact O3.out, B3.out⟩
  · have hpe : p = n := by omega
    subst hpe
    clear hlt
    have HT : Hid (hitB f p key p = false) := by show hitB f p key p = false; unfold hitB; rw [decide_eq_false (by omega)]; rfl
    have T0 : Hid (((listP f g p).take p).length = p) := by show ((listP f g p).take p).length = p; have := List.length_take (i := p) (l := listP f g p); rw [listP_length] at this; omega
    have T1 : Hid ((cellsP ((listP f g p).take p)).length = p * 2) := by show (cellsP ((listP f g p).take p)).length = p * 2; rw [cellsP_length, T0.out]
    have T2 : Hid (((listP f g p).take p).length = p) := T0
    have T5 : Hid (((listP f g p).drop p).length = 0) := by show ((listP f g p).drop p).length = 0; have := List.length_drop (i := p) (l := listP f g p); rw [listP_length] at this; omega
    have T3 : Hid ((cellsP ((listP f g p).drop p)).length = 0 * 2) := by show (cellsP ((listP f g p).drop p)).length = 0 * 2; rw [cellsP_length, T5.out]
    have T4 : Hid (((listP f g p).take p ++ [(key, val)]).length = p + 1) := by show ((listP f g p).take p ++ [(key, val)]).length = p + 1; rw [List.length_append, T0.out]; rfl
    have Q1 : Hid (((listP f g p).take p).length + 1 ≤ maxLen) := by show ((listP f g p).take p).length + 1 ≤ maxLen; rw [T0.out]; unfold maxLen; omega
    have Q2 : Hid ((((listP f g p).take p).length + 1) * 32 ≤ 140737488355328) := by show (((listP f g p).take p).length + 1) * 32 ≤ 140737488355328; rw [T0.out]; omega
    have Q3 : Hid (((listP f g p).take p ++ [(key, val)]).length + 0 ≤ maxLen) := by show ((listP f g p).take p ++ [(key, val)]).length + 0 ≤ maxLen; rw [T4.out]; unfold maxLen; omega
    have Q4 : Hid ((((listP f g p).take p ++ [(key, val)]).length + 0) * 32 ≤ 140737488355328) := by show (((listP f g p).take p ++ [(key, val)]).length + 0) * 32 ≤ 140737488355328; rw [T4.out]; omega
    have S0 : Hid (SrcP w b o (listP f g p)) := src_of HH.out
    have N1 : Hid (∀ j u, (cellsP ((listP f g p).take p))[j]? = some u → (w.alloc (.cells #[] 70)).cell? ((⟨b, o, none⟩ : Addr).add j) = some u) := ((S0.out.take p).below ((Below.refl _ _).alloc (Nat.le_refl _) _)).news
    have N3 : Hid (SrcP w b o ((listP f g p).drop p)) := by
      have h9 := rest_src S0.out (listP_length f g p) p (by omega)
      unfold restO at h9
      first | (rw [if_pos (by omega)] at h9; exact h9) | (rw [if_neg (by omega)] at h9; exact h9)
    have EL : Hid (putL f g p key val p = (listP f g p).take p ++ [(key, val)] ++ (listP f g p).drop p) := by show putL f g p key val p = _; unfold putL; rw [HT.out]; rfl
    go_enter Tryz.func88, Tryz.ntmps88
    go_wp2_with (first | (go_at_call 119; refine (l01At _ p p f g key p _ (by omega) HP.out HH.out).mono ?_; rintro e w' ⟨rfl, rfl⟩) | (at_builtin; refine wpList_append_own _ rfl (.tmp 41) (.tmp 42) 28 rfl w.heap.size 70 i0 (.agg #[.string ⟨#[]⟩, .string ⟨#[]⟩]) 2 32 Tryz.underlying28 HI.out HZ0.out HZ1.out HZ2.out rfl (by decide) _ _ _ rfl O2.out ⟨b, o, none⟩ 0 0 (cellsP ((listP f g p).drop p)) rfl T3.out (N3.out.below B2.out).news (cellsP_one _) Q3.out Q4.out B2.out.size ?_; intro v3 w3 hown3 hgrow3 _; have B3 : Hid (Below w.heap.size w w3) := B2.out.grown hgrow3 B2.out.size O2.out.block; have O3 : Hid (OwnsP w3 w.heap.size v3 ((listP f g p).take p ++ [(key, val)] ++ (listP f g p).drop p)) := OwnsP.more T5.out hown3; clear hown3 hgrow3) | (at_builtin; refine wpList_append_own _ rfl (.tmp 36) (.tmp 40) 28 rfl w.heap.size 70 i0 (.agg #[.string ⟨#[]⟩, .string ⟨#[]⟩]) 2 32 Tryz.underlying28 HI.out HZ0.out HZ1.out HZ2.out rfl (by decide) _ _ _ rfl (O1.out.alloc _) ⟨w1.heap.size, 0, none⟩ 1 1 [.string key, .string val] rfl rfl (two_newP w1 key val) (two_oneP key val) Q1.out Q2.out (le_alloc B1.out.size _) ?_; intro v2 w2 hown2 hgrow2 _; have B2 : Hid (Below w.heap.size w w2) := (B1.out.alloc B1.out.size _).grown hgrow2 (le_alloc B1.out.size _) O1.out.block; have O2 : Hid (OwnsP w2 w.heap.size v2 ((listP f g p).take p ++ [(key, val)])) := OwnsP.one hown2; clear hown2 hgrow2) | (at_builtin; refine wpList_append_own _ rfl (.tmp 32) (.tmp 35) 28 rfl w.heap.size 70 i0 (.agg #[.string ⟨#[]⟩, .string ⟨#[]⟩]) 2 32 Tryz.underlying28 HI.out HZ0.out HZ1.out HZ2.out rfl (by decide) _ 0 [] rfl (OwnsP.made w _ (Nat.le_refl _)) ⟨b, o, none⟩ p p (cellsP ((listP f g p).take p)) rfl T1.out N1.out (cellsP_one _) (by unfold maxLen; omega) (by omega) (by simp) ?_; intro v1 w1 hown1 hgrow1 _; have B1 : Hid (Below w.heap.size w w1) := ((Below.refl _ _).alloc (Nat.le_refl _) _).grown hgrow1 (by simp) (fun k e => by cases e; exact Nat.le_refl _); have O1 : Hid (OwnsP w1 w.heap.size v1 ((listP f g p).take p)) := OwnsP.mk T1.out (by simpa using hown1); clear hown1 hgrow1))
    go_ret
    exact ⟨_, rfl, by rw [EL.out]; exact O3.out, B3.out⟩
end Go.Proofs.YtmbndpgoihdpnaaGreatDoor
