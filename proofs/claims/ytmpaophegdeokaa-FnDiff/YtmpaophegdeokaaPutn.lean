
/-
  Both PairPut and both PairDrop of any slice of pairs. By an AI agent.
-/
import Derived.Test.YtmpaophegdeokaaDroph
namespace Go.Proofs.Ytmpaophegdeokaa
open Go.ChangeShapes Go.WideShapes Go.ChangeAt Go.RowKit Go.Deep
set_option linter.unusedVariables false
set_option maxRecDepth 100000

theorem src_sp {w : World} {a : Option Addr} {n : Nat} {f g : Nat → ByteArray} (h : Sp w a n f g) : Src w a (cellsP (listP f g n)) := by
  rcases h with h | ⟨b, o, rfl, hc⟩
  · subst h
    exact .inl rfl
  · refine .inr ⟨b, o, rfl, fun j hj => ?_⟩
    rw [cellsP_length, listP_length] at hj
    obtain ⟨c1, c2⟩ := cellsP_get (listP f g n) (j / 2) (by rw [listP_length]; omega)
    obtain ⟨h1, h2⟩ := hc (j / 2) (by omega)
    rw [listP_get f g n _ (by omega)] at c1 c2
    by_cases e : j % 2 = 0
    · rw [show j / 2 * 2 = j from by omega] at c1 h1
      rw [h1, getD_some c1]
    · rw [show j / 2 * 2 + 1 = j from by omega] at c2
      rw [show o + j / 2 * 2 + 1 = o + j from by omega] at h2
      rw [h2, getD_some c2]
theorem sp_of {w : World} {a : Option Addr} {L : List PM} {n : Nat} (h : Src w a (cellsP L)) (hn : L.length = n) : Sp w a n (fstL L) (sndL L) := by
  subst hn
  rcases h with h | ⟨b, o, rfl, hc⟩
  · refine .inl ?_
    have h2 := cellsP_length L
    rw [h] at h2
    simp only [List.length_nil] at h2
    omega
  · refine .inr ⟨b, o, rfl, fun i hi => ?_⟩
    obtain ⟨c1, c2⟩ := cellsP_get L i hi
    have h1 := hc (i * 2) (by rw [cellsP_length]; omega)
    have h2 := hc (i * 2 + 1) (by rw [cellsP_length]; omega)
    rw [getD_some c1] at h1
    rw [getD_some c2] at h2
    exact ⟨h1, h2⟩
theorem src_two {w : World} {x y : ByteArray} {B : Nat} (hB : B = w.heap.size) : Src (w.alloc (.cells #[.string x, .string y] 34)) (some ⟨B, 0, none⟩) (cellsP [(x, y)]) := by
  have hb : Box (w.alloc (.cells #[.string x, .string y] 34)) B [.string x, .string y] := Box.new hB
  refine .inr ⟨B, 0, rfl, fun j hj => ?_⟩
  have hj2 : j < 2 := hj
  rw [Nat.zero_add]
  match j, hj2 with
  | 0, _ => exact (hb 0 _ rfl).1
  | 1, _ => exact (hb 1 _ rfl).1
theorem OwnsP.row {w : World} {base : Nat} {v : Value} {L : List PM} {n : Nat} (h : OwnsP w base v L) (hn : L.length = n) : w.ownsRow base 34 2 v n (cellsP L) := by subst hn; exact h
theorem OwnsP.of {w : World} {base : Nat} {v : Value} {L : List PM} {n : Nat} (hn : L.length = n) (h : w.ownsRow base 34 2 v n (cellsP L)) : OwnsP w base v L := by subst hn; exact h

set_option maxHeartbeats 2000000 in
theorem l01PutA (a : Option Addr) (n c : Nat) (f g : Nat → ByteArray) (key val : ByteArray) (p : Nat) (w : World) (hn : n ≤ 4096) (hc : n ≤ c) (hp : IsPlace f n key p) (h : Sp w a n f g) :
    Calls Try.prog 67 #[.slice a n c, .string key, .string val] w fun e w' => ∃ v, e = .returned v ∧ OwnsP w' w.heap.size v (putL f g n key val p) ∧ Below w.heap.size w w' := by
  have HH : Hid (Sp w a n f g) := h
  have HP : Hid (IsPlace f n key p) := hp
  have hpn := hp.1
  have S0 : Src w a (cellsP (listP f g n)) := src_sp h
  have S1 : Hid (Src w a (cellsP ((listP f g n).take p))) := by have h9 := S0.head (p * 2); rw [cellsP_take] at h9; exact h9
  have SD : Hid (∀ q, q ≤ n → Src w (cutP a c q 2) (cellsP ((listP f g n).drop q))) := fun q hq => by have h9 := S0.tail (n := n) (c := c) (q := q) (s := 2) (by rw [cellsP_length, listP_length]) hq hc; rw [cellsP_drop] at h9; exact h9
  have cut1 := cut_h (P := Try.prog) (e := 34) Try.underlying23 (fun w => Try.sizeOf34 w) a n c p (by omega)
  have cut2 := cut_l (P := Try.prog) (e := 34) Try.underlying23 (fun w => Try.sizeOf34 w) a n c p hpn
  have T0 : Hid (((listP f g n).take p).length = p) := by show ((listP f g n).take p).length = p; rw [List.length_take, listP_length]; omega
  have TD : Hid (∀ q, ((listP f g n).drop q).length = n - q) := fun q => by rw [List.length_drop, listP_length]
  have hp9 : p ≤ 4096 := by omega
  clear h hp S0
  cases hh : hitB f n key p with
  | true =>
    have HT : Hid (hitB f n key p = true) := hh
    have hh2 := hh
    unfold hitB at hh2
    rw [Bool.and_eq_true, decide_eq_true_eq] at hh2
    obtain ⟨hlt, hq⟩ := hh2
    have hi1 : (p : Int) < (n : Int) := by omega
    obtain ⟨b, o, rfl, hc1⟩ : ∃ b o, a = some ⟨b, o, none⟩ ∧ w.cell? ⟨b, o + p * 2, none⟩ = some (.string (f p)) := by
      rcases HH.out with h0 | ⟨b, o, e, hcc⟩
      · omega
      · exact ⟨b, o, e, (hcc p hlt).1⟩
    have cut3 : ∀ W, (Instr.slice 23 (.slice (some ⟨b, o, none⟩) n c) (some (.int .i64 ((p : Int) + 1))) none none).run Try.prog W = .ok (.slice (cutP (some ⟨b, o, none⟩) c (p + 1) 2) (n - (p + 1)) (c - (p + 1))) W := fun W => by
      have h9 := cut_l (P := Try.prog) (e := 34) Try.underlying23 (fun w => Try.sizeOf34 w) (some ⟨b, o, none⟩) n c (p + 1) (by omega) W
      rwa [show ((p + 1 : Nat) : Int) = (p : Int) + 1 from by omega] at h9
    have S2 : Hid (Src w (cutP (some ⟨b, o, none⟩) c (p + 1) 2) (cellsP ((listP f g n).drop (p + 1)))) := SD.out (p + 1) (by omega)
    have T1 : Hid (((listP f g n).drop (p + 1)).length = n - (p + 1)) := TD.out _
    have EL : Hid (putL f g n key val p = (listP f g n).take p ++ [(key, val)] ++ (listP f g n).drop (p + 1)) := by show putL f g n key val p = _; unfold putL; rw [HT.out]; rfl
    generalize cutP (some ⟨b, o, none⟩) c p 2 = a9 at cut2
    generalize cutP (some ⟨b, o, none⟩) c (p + 1) 2 = a2 at cut3 S2
    obtain ⟨r, hr⟩ : ∃ r, n - (p + 1) = r := ⟨_, rfl⟩
    obtain ⟨cr, hcr⟩ : ∃ r, c - (p + 1) = r := ⟨_, rfl⟩
    rw [hr, hcr] at cut3
    rw [hr] at T1
    have hr9 : r ≤ 4096 := by omega
    clear hh hr hcr SD TD
    go_enter Try.func67, Try.ntmps67
    go_wp2_with fail
    refine (l01At _ n c f g key p _ (by omega) HP.out HH.out).mono ?_
    rintro e w' ⟨rfl, rfl⟩
    go_wp2_with (first | (at_builtin; refine wpList_append_src _ rfl (.tmp 41) (.tmp 42) 23 rfl w.heap.size 34 (.agg #[.string ⟨#[]⟩, .string ⟨#[]⟩]) 2 32 Try.underlying23 infoP rfl (by decide) (by decide) _ (p + 1) _ rfl O2.out a2 r cr (cellsP ((listP f g n).drop (p + 1))) rfl (by rw [cellsP_length, T1.out]) (S2.out.below B2.out) (cellsP_one _) (by omega) B2.out.size ?_; intro v3 w3 hown3 hgrow3; have B3 : Hid (Below w.heap.size w w3) := B2.out.grown hgrow3 B2.out.size (fun k e => (O2.out.lt k e).1); have O3 : Hid (OwnsP w3 w.heap.size v3 ((listP f g n).take p ++ [(key, val)] ++ (listP f g n).drop (p + 1))) := (OwnsP.of (n := p + 1 + r) (by rw [List.length_append, List.length_append, T0.out, T1.out]; rfl) (by rw [cellsP_append]; exact hown3)); clear hown3 hgrow3) | (at_builtin; refine wpList_append_src _ rfl (.tmp 36) (.tmp 40) 23 rfl w.heap.size 34 (.agg #[.string ⟨#[]⟩, .string ⟨#[]⟩]) 2 32 Try.underlying23 infoP rfl (by decide) (by decide) _ p _ rfl (O1.out.alloc _) (some ⟨w1.heap.size, 0, none⟩) 1 1 (cellsP [(key, val)]) rfl rfl (src_two rfl) (cellsP_one _) (by omega) (le_alloc B1.out.size _) ?_; intro v2 w2 hown2 hgrow2; have B2 : Hid (Below w.heap.size w w2) := (B1.out.alloc B1.out.size _).grown hgrow2 (le_alloc B1.out.size _) (fun k e => (O1.out.lt k e).1); have O2 : Hid (w2.ownsRow w.heap.size 34 2 v2 (p + 1) (cellsP ((listP f g n).take p ++ [(key, val)]))) := (by show World.ownsRow _ _ _ _ _ _ _; rw [cellsP_append]; exact hown2); clear hown2 hgrow2) | (at_builtin; refine wpList_append_src _ rfl (.tmp 32) (.tmp 35) 23 rfl w.heap.size 34 (.agg #[.string ⟨#[]⟩, .string ⟨#[]⟩]) 2 32 Try.underlying23 infoP rfl (by decide) (by decide) _ 0 [] rfl (OwnsP.made w _ (Nat.le_refl _)) (some ⟨b, o, none⟩) p c (cellsP ((listP f g n).take p)) rfl (by rw [cellsP_length, T0.out]) (S1.out.below ((Below.refl _ _).alloc (Nat.le_refl _) _)) (cellsP_one _) (by omega) (by simp) ?_; intro v1 w1 hown1 hgrow1; have B1 : Hid (Below w.heap.size w w1) := ((Below.refl _ _).alloc (Nat.le_refl _) _).grown hgrow1 (by simp) (fun k e => by cases e; exact Nat.le_refl _); have O1 : Hid (w1.ownsRow w.heap.size 34 2 v1 p (cellsP ((listP f g n).take p))) := (by show World.ownsRow _ _ _ _ _ _ _; have h9 := hown1; rw [Nat.zero_add, List.nil_append] at h9; exact h9); clear hown1 hgrow1))
    go_ret
    exact ⟨_, rfl, by rw [EL.out]; exact O3.out, B3.out⟩
  | false =>
    have HT : Hid (hitB f n key p = false) := hh
    have S2 : Hid (Src w (cutP a c p 2) (cellsP ((listP f g n).drop p))) := SD.out p hpn
    have T1 : Hid (((listP f g n).drop p).length = n - p) := TD.out _
    have EL : Hid (putL f g n key val p = (listP f g n).take p ++ [(key, val)] ++ (listP f g n).drop p) := by show putL f g n key val p = _; unfold putL; rw [HT.out]; rfl
    generalize cutP a c p 2 = a2 at cut2 S2
    obtain ⟨r, hr⟩ : ∃ r, n - p = r := ⟨_, rfl⟩
    obtain ⟨cr, hcr⟩ : ∃ r, c - p = r := ⟨_, rfl⟩
    rw [hr, hcr] at cut2
    rw [hr] at T1
    have hr9 : r ≤ 4096 := by omega
    unfold hitB at hh
    clear hr hcr SD TD
    by_cases hlt : p < n
    · have hi1 : (p : Int) < (n : Int) := by omega
      obtain ⟨b, o, rfl, hc1⟩ : ∃ b o, a = some ⟨b, o, none⟩ ∧ w.cell? ⟨b, o + p * 2, none⟩ = some (.string (f p)) := by
        rcases HH.out with h0 | ⟨b, o, e, hcc⟩
        · omega
        · exact ⟨b, o, e, (hcc p hlt).1⟩
      rw [decide_eq_true hlt, Bool.true_and] at hh
      go_enter Try.func67, Try.ntmps67
      go_wp2_with fail
      refine (l01At _ n c f g key p _ (by omega) HP.out HH.out).mono ?_
      rintro e w' ⟨rfl, rfl⟩
      go_wp2_with (first | (at_builtin; refine wpList_append_src _ rfl (.tmp 41) (.tmp 42) 23 rfl w.heap.size 34 (.agg #[.string ⟨#[]⟩, .string ⟨#[]⟩]) 2 32 Try.underlying23 infoP rfl (by decide) (by decide) _ (p + 1) _ rfl O2.out a2 r cr (cellsP ((listP f g n).drop p)) rfl (by rw [cellsP_length, T1.out]) (S2.out.below B2.out) (cellsP_one _) (by omega) B2.out.size ?_; intro v3 w3 hown3 hgrow3; have B3 : Hid (Below w.heap.size w w3) := B2.out.grown hgrow3 B2.out.size (fun k e => (O2.out.lt k e).1); have O3 : Hid (OwnsP w3 w.heap.size v3 ((listP f g n).take p ++ [(key, val)] ++ (listP f g n).drop p)) := (OwnsP.of (n := p + 1 + r) (by rw [List.length_append, List.length_append, T0.out, T1.out]; rfl) (by rw [cellsP_append]; exact hown3)); clear hown3 hgrow3) | (at_builtin; refine wpList_append_src _ rfl (.tmp 36) (.tmp 40) 23 rfl w.heap.size 34 (.agg #[.string ⟨#[]⟩, .string ⟨#[]⟩]) 2 32 Try.underlying23 infoP rfl (by decide) (by decide) _ p _ rfl (O1.out.alloc _) (some ⟨w1.heap.size, 0, none⟩) 1 1 (cellsP [(key, val)]) rfl rfl (src_two rfl) (cellsP_one _) (by omega) (le_alloc B1.out.size _) ?_; intro v2 w2 hown2 hgrow2; have B2 : Hid (Below w.heap.size w w2) := (B1.out.alloc B1.out.size _).grown hgrow2 (le_alloc B1.out.size _) (fun k e => (O1.out.lt k e).1); have O2 : Hid (w2.ownsRow w.heap.size 34 2 v2 (p + 1) (cellsP ((listP f g n).take p ++ [(key, val)]))) := (by show World.ownsRow _ _ _ _ _ _ _; rw [cellsP_append]; exact hown2); clear hown2 hgrow2) | (at_builtin; refine wpList_append_src _ rfl (.tmp 32) (.tmp 35) 23 rfl w.heap.size 34 (.agg #[.string ⟨#[]⟩, .string ⟨#[]⟩]) 2 32 Try.underlying23 infoP rfl (by decide) (by decide) _ 0 [] rfl (OwnsP.made w _ (Nat.le_refl _)) (some ⟨b, o, none⟩) p c (cellsP ((listP f g n).take p)) rfl (by rw [cellsP_length, T0.out]) (S1.out.below ((Below.refl _ _).alloc (Nat.le_refl _) _)) (cellsP_one _) (by omega) (by simp) ?_; intro v1 w1 hown1 hgrow1; have B1 : Hid (Below w.heap.size w w1) := ((Below.refl _ _).alloc (Nat.le_refl _) _).grown hgrow1 (by simp) (fun k e => by cases e; exact Nat.le_refl _); have O1 : Hid (w1.ownsRow w.heap.size 34 2 v1 p (cellsP ((listP f g n).take p))) := (by show World.ownsRow _ _ _ _ _ _ _; have h9 := hown1; rw [Nat.zero_add, List.nil_append] at h9; exact h9); clear hown1 hgrow1))
      go_ret
      exact ⟨_, rfl, by rw [EL.out]; exact O3.out, B3.out⟩
    · have hi1 : ¬ (p : Int) < (n : Int) := by omega
      clear hh
      go_enter Try.func67, Try.ntmps67
      go_wp2_with fail
      refine (l01At _ n c f g key p _ (by omega) HP.out HH.out).mono ?_
      rintro e w' ⟨rfl, rfl⟩
      go_wp2_with (first | (at_builtin; refine wpList_append_src _ rfl (.tmp 41) (.tmp 42) 23 rfl w.heap.size 34 (.agg #[.string ⟨#[]⟩, .string ⟨#[]⟩]) 2 32 Try.underlying23 infoP rfl (by decide) (by decide) _ (p + 1) _ rfl O2.out a2 r cr (cellsP ((listP f g n).drop p)) rfl (by rw [cellsP_length, T1.out]) (S2.out.below B2.out) (cellsP_one _) (by omega) B2.out.size ?_; intro v3 w3 hown3 hgrow3; have B3 : Hid (Below w.heap.size w w3) := B2.out.grown hgrow3 B2.out.size (fun k e => (O2.out.lt k e).1); have O3 : Hid (OwnsP w3 w.heap.size v3 ((listP f g n).take p ++ [(key, val)] ++ (listP f g n).drop p)) := (OwnsP.of (n := p + 1 + r) (by rw [List.length_append, List.length_append, T0.out, T1.out]; rfl) (by rw [cellsP_append]; exact hown3)); clear hown3 hgrow3) | (at_builtin; refine wpList_append_src _ rfl (.tmp 36) (.tmp 40) 23 rfl w.heap.size 34 (.agg #[.string ⟨#[]⟩, .string ⟨#[]⟩]) 2 32 Try.underlying23 infoP rfl (by decide) (by decide) _ p _ rfl (O1.out.alloc _) (some ⟨w1.heap.size, 0, none⟩) 1 1 (cellsP [(key, val)]) rfl rfl (src_two rfl) (cellsP_one _) (by omega) (le_alloc B1.out.size _) ?_; intro v2 w2 hown2 hgrow2; have B2 : Hid (Below w.heap.size w w2) := (B1.out.alloc B1.out.size _).grown hgrow2 (le_alloc B1.out.size _) (fun k e => (O1.out.lt k e).1); have O2 : Hid (w2.ownsRow w.heap.size 34 2 v2 (p + 1) (cellsP ((listP f g n).take p ++ [(key, val)]))) := (by show World.ownsRow _ _ _ _ _ _ _; rw [cellsP_append]; exact hown2); clear hown2 hgrow2) | (at_builtin; refine wpList_append_src _ rfl (.tmp 32) (.tmp 35) 23 rfl w.heap.size 34 (.agg #[.string ⟨#[]⟩, .string ⟨#[]⟩]) 2 32 Try.underlying23 infoP rfl (by decide) (by decide) _ 0 [] rfl (OwnsP.made w _ (Nat.le_refl _)) a p c (cellsP ((listP f g n).take p)) rfl (by rw [cellsP_length, T0.out]) (S1.out.below ((Below.refl _ _).alloc (Nat.le_refl _) _)) (cellsP_one _) (by omega) (by simp) ?_; intro v1 w1 hown1 hgrow1; have B1 : Hid (Below w.heap.size w w1) := ((Below.refl _ _).alloc (Nat.le_refl _) _).grown hgrow1 (by simp) (fun k e => by cases e; exact Nat.le_refl _); have O1 : Hid (w1.ownsRow w.heap.size 34 2 v1 p (cellsP ((listP f g n).take p))) := (by show World.ownsRow _ _ _ _ _ _ _; have h9 := hown1; rw [Nat.zero_add, List.nil_append] at h9; exact h9); clear hown1 hgrow1))
      go_ret
      exact ⟨_, rfl, by rw [EL.out]; exact O3.out, B3.out⟩
set_option maxHeartbeats 2000000 in
theorem specPairPutA (a : Option Addr) (n c : Nat) (f g : Nat → ByteArray) (key val : ByteArray) (p : Nat) (w : World) (hn : n ≤ 1048576) (hc : n ≤ c) (hk : key.size ≤ 1048576) (hv : val.size ≤ 1048576) (hs : ∀ i, i < n → (f i).size ≤ 1048576 ∧ (g i).size ≤ 1048576) (hp : IsPlace f n key p) (h : Sp w a n f g) :
    Calls Try.prog 14 #[.slice a n c, .string key, .string val] w fun e w' => ∃ v, e = .returned (.tuple #[v, .int .i64 (putC f g n key val p)]) ∧ OwnsP w' w.heap.size v (putR f g n key val p) ∧ Below w.heap.size w w' := by
  have HP : Hid (IsPlace f n key p) := hp
  have HH : Hid (Sp w a n f g) := h
  have HS : Hid (∀ i, i < n → (f i).size ≤ 1048576 ∧ (g i).size ≤ 1048576) := hs
  have hpn := hp.1
  clear h hs hp
  by_cases h123 : 4096 < n ∨ 65536 < key.size ∨ 65536 < val.size
  · have hf : faultC f g n key val = 2 := by unfold faultC; rw [if_pos h123]
    have E : Hid (putC f g n key val p = 2) := by show putC f g n key val p = 2; unfold putC; rw [hf]; rfl
    have EL : Hid (putR f g n key val p = []) := by show putR f g n key val p = []; unfold putR; rw [hf]; rfl
    clear hf
    by_cases h1 : 4096 < n
    · clear h123
      go_enter Try.func14, Try.ntmps14
      go_wp2_with fail
      go_ret2
      exact ⟨_, ret_vi' E.out.symm, by rw [EL.out]; exact OwnsP.made w _ (Nat.le_refl _), (Below.refl _ _).alloc (Nat.le_refl _) _⟩
    by_cases h2 : 65536 < key.size
    · clear h123
      go_enter Try.func14, Try.ntmps14
      go_wp2_with fail
      go_ret2
      exact ⟨_, ret_vi' E.out.symm, by rw [EL.out]; exact OwnsP.made w _ (Nat.le_refl _), (Below.refl _ _).alloc (Nat.le_refl _) _⟩
    · have h3 : 65536 < val.size := by omega
      clear h123
      go_enter Try.func14, Try.ntmps14
      go_wp2_with fail
      go_ret2
      exact ⟨_, ret_vi' E.out.symm, by rw [EL.out]; exact OwnsP.made w _ (Nat.le_refl _), (Below.refl _ _).alloc (Nat.le_refl _) _⟩
  have h1 : n ≤ 4096 := by omega
  have h2 : key.size ≤ 65536 := by omega
  have h3 : val.size ≤ 65536 := by omega
  have hfa := fault_of_ask f g n key val (by omega) (by omega)
  clear h123
  by_cases h0 : askC f g n key = 0
  · have H0 : Hid (askC f g n key = 0) := h0
    rw [if_pos h0] at hfa
    clear h0
    by_cases h90 : 90 < val.size
    · rw [if_pos h90] at hfa
      have E : Hid (putC f g n key val p = 4) := by show putC f g n key val p = 4; unfold putC; rw [hfa]; rfl
      have EL : Hid (putR f g n key val p = []) := by show putR f g n key val p = []; unfold putR; rw [hfa]; rfl
      clear hfa
      go_enter Try.func14, Try.ntmps14
      go_wp2_with fail
      refine (l01Ask _ n c f g key _ hn hk HS.out HH.out).mono ?_
      rintro e1 w1 ⟨rfl, hb⟩
      rw [H0.out]
      go_wp2_with fail
      go_ret2
      exact ⟨_, ret_vi' E.out.symm, by rw [EL.out]; exact OwnsP.made w1 _ hb.size, hb.alloc hb.size _⟩
    · rw [if_neg h90] at hfa
      have h60 := pairs_le f g n key val hfa
      have hll := putL_length f g n key val p hpn
      by_cases hfull : hitB f n key p = false ∧ n = 60
      · have E : Hid (putC f g n key val p = 7) := by show putC f g n key val p = 7; unfold putC; rw [if_pos hfa, if_pos hfull]
        have EL : Hid (putR f g n key val p = listP f g n) := by show putR f g n key val p = _; unfold putR; rw [if_pos hfa, if_pos hfull]
        have hlen : 60 < (putL f g n key val p).length := by rw [hll, hfull.1]; simp; omega
        have S0 : Hid (Src w a (cellsP (listP f g n))) := src_sp HH.out
        have T1 : Hid ((cellsP (listP f g n)).length = n * 2) := by show (cellsP (listP f g n)).length = n * 2; rw [cellsP_length, listP_length]
        clear hfa hfull hll
        go_enter Try.func14, Try.ntmps14
        go_wp2_with fail
        refine (l01Ask _ n c f g key _ hn hk HS.out HH.out).mono ?_
        rintro e1 w1 ⟨rfl, hb⟩
        rw [H0.out]
        have B1 : Hid (Below w.heap.size w w1) := hb
        clear hb
        go_wp2_with fail
        refine (l01PutA a n c f g key val p _ h1 hc HP.out (HH.out.below B1.out)).mono ?_
        rintro e1 w2 ⟨v, rfl, ho, hb2⟩
        obtain ⟨av, cv, rfl, _, _⟩ := ho.open
        have B2 : Hid (Below w.heap.size w w2) := B1.out.trans (hb2.mono B1.out.size)
        clear ho hb2 B1
        go_wp2_with (at_builtin; refine wpList_append_src _ rfl _ _ 23 rfl w.heap.size 34 (.agg #[.string ⟨#[]⟩, .string ⟨#[]⟩]) 2 32 Try.underlying23 infoP rfl (by decide) (by decide) _ 0 [] rfl (OwnsP.made w2 _ B2.out.size) a n c (cellsP (listP f g n)) rfl T1.out (S0.out.below (B2.out.alloc B2.out.size _)) (cellsP_one _) (by omega) (le_alloc B2.out.size _) ?_; intro v1 w3 hown3 hgrow3; have B3 : Hid (Below w.heap.size w w3) := (B2.out.alloc B2.out.size _).grown hgrow3 (le_alloc B2.out.size _) (fun k e => by cases e; exact B2.out.size); have O3 : Hid (OwnsP w3 w.heap.size v1 (listP f g n)) := OwnsP.mk T1.out (by simpa using hown3); clear hown3 hgrow3)
        go_ret2
        exact ⟨_, ret_vi' E.out.symm, by rw [EL.out]; exact O3.out, B3.out⟩
      · have E : Hid (putC f g n key val p = 0) := by show putC f g n key val p = 0; unfold putC; rw [if_pos hfa, if_neg hfull]
        have EL : Hid (putR f g n key val p = putL f g n key val p) := by show putR f g n key val p = _; unfold putR; rw [if_pos hfa, if_neg hfull]
        have hlen : (putL f g n key val p).length ≤ 60 := by
          rw [hll]
          cases hh : hitB f n key p with
          | true => simp; omega
          | false =>
            have : ¬ n = 60 := fun e => hfull ⟨hh, e⟩
            simp; omega
        clear hfa hfull hll
        go_enter Try.func14, Try.ntmps14
        go_wp2_with fail
        refine (l01Ask _ n c f g key _ hn hk HS.out HH.out).mono ?_
        rintro e1 w1 ⟨rfl, hb⟩
        rw [H0.out]
        have B1 : Hid (Below w.heap.size w w1) := hb
        clear hb
        go_wp2_with fail
        refine (l01PutA a n c f g key val p _ h1 hc HP.out (HH.out.below B1.out)).mono ?_
        rintro e1 w2 ⟨v, rfl, ho, hb2⟩
        have HO : Hid (OwnsP w2 w.heap.size v (putL f g n key val p)) := ho.weaken B1.out.size
        obtain ⟨av, cv, rfl, _, _⟩ := ho.open
        have B2 : Hid (Below w.heap.size w w2) := B1.out.trans (hb2.mono B1.out.size)
        clear ho hb2 B1
        go_wp2_with fail
        go_ret2
        exact ⟨_, ret_vi' E.out.symm, by rw [EL.out]; exact HO.out, B2.out⟩
  · have hne : (askC f g n key != 0) = true := by simpa using h0
    rw [if_neg h0] at hfa
    have E : Hid (putC f g n key val p = askC f g n key) := by show putC f g n key val p = _; unfold putC; rw [hfa, if_neg h0]
    have EL : Hid (putR f g n key val p = []) := by show putR f g n key val p = []; unfold putR; rw [hfa, if_neg h0]
    clear hfa h0
    go_enter Try.func14, Try.ntmps14
    go_wp2_with fail
    refine (l01Ask _ n c f g key _ hn hk HS.out HH.out).mono ?_
    rintro e1 w1 ⟨rfl, hb⟩
    go_wp2_with fail
    go_ret2
    exact ⟨_, ret_vi' E.out.symm, by rw [EL.out]; exact OwnsP.made w1 _ hb.size, hb.alloc hb.size _⟩


set_option maxHeartbeats 2000000 in
theorem specPairDropA (a : Option Addr) (n c : Nat) (f g : Nat → ByteArray) (key : ByteArray) (p : Nat) (w : World) (hn : n ≤ 1048576) (hc : n ≤ c) (hk : key.size ≤ 1048576) (hs : ∀ i, i < n → (f i).size ≤ 1048576 ∧ (g i).size ≤ 1048576) (hp : IsPlace f n key p) (h : Sp w a n f g) :
    Calls Try.prog 42 #[.slice a n c, .string key] w fun e w' => ∃ v, e = .returned (.tuple #[v, .int .i64 (dropC f g n key p)]) ∧ OwnsP w' w.heap.size v (dropR f g n key p) ∧ Below w.heap.size w w' := by
  have HP : Hid (IsPlace f n key p) := hp
  have HH : Hid (Sp w a n f g) := h
  have HS : Hid (∀ i, i < n → (f i).size ≤ 1048576 ∧ (g i).size ≤ 1048576) := hs
  have hpn := hp.1
  clear h hs hp
  by_cases h12 : 4096 < n ∨ 65536 < key.size
  · have hf : askC f g n key = 2 := by unfold askC; rw [if_pos h12]
    have E : Hid (dropC f g n key p = 2) := by show dropC f g n key p = 2; unfold dropC; rw [hf]; rfl
    have EL : Hid (dropR f g n key p = []) := by show dropR f g n key p = []; unfold dropR; rw [hf]; rfl
    clear hf
    by_cases h1 : 4096 < n
    · clear h12
      go_enter Try.func42, Try.ntmps42
      go_wp2_with fail
      go_ret2
      exact ⟨_, ret_vi' E.out.symm, by rw [EL.out]; exact OwnsP.made w _ (Nat.le_refl _), (Below.refl _ _).alloc (Nat.le_refl _) _⟩
    · have h2 : 65536 < key.size := by omega
      clear h12
      go_enter Try.func42, Try.ntmps42
      go_wp2_with fail
      go_ret2
      exact ⟨_, ret_vi' E.out.symm, by rw [EL.out]; exact OwnsP.made w _ (Nat.le_refl _), (Below.refl _ _).alloc (Nat.le_refl _) _⟩
  have h1 : n ≤ 4096 := by omega
  have h2 : key.size ≤ 65536 := by omega
  clear h12
  by_cases h0 : askC f g n key = 0
  · have H0 : Hid (askC f g n key = 0) := h0
    cases hh : hitB f n key p with
    | true =>
      have HT : Hid (hitB f n key p = true) := hh
      have E : Hid (dropC f g n key p = 0) := by show dropC f g n key p = 0; unfold dropC; rw [if_pos h0, if_pos hh]
      have EL : Hid (dropR f g n key p = dropTo f g key n) := by show dropR f g n key p = _; unfold dropR; rw [if_pos h0, if_pos hh, dropTo_all (ask_pairs h0) HP.out hh]
      clear h0 hh
      go_enter Try.func42, Try.ntmps42
      go_wp2_with fail
      refine (l01Ask _ n c f g key _ hn hk HS.out HH.out).mono ?_
      rintro e1 w1 ⟨rfl, hb⟩
      rw [H0.out]
      have B1 : Hid (Below w.heap.size w w1) := hb
      clear hb
      go_wp2_with fail
      refine (l01Get _ n c f g key p _ hn HP.out (HH.out.below B1.out)).mono ?_
      rintro e1 w2 ⟨rfl, rfl⟩
      rw [HT.out]
      go_wp2_with fail
      refine (l01Drop _ n c f g key _ h1 (HH.out.below B1.out)).mono ?_
      rintro e1 w3 ⟨v, rfl, ho, hb3⟩
      have HO : Hid (OwnsP w3 w.heap.size v (dropTo f g key n)) := ho.weaken B1.out.size
      have B3 : Hid (Below w.heap.size w w3) := B1.out.trans (hb3.mono B1.out.size)
      clear ho hb3 B1
      go_wp2_with fail
      go_ret2
      exact ⟨_, ret_vi' E.out.symm, by rw [EL.out]; exact HO.out, B3.out⟩
    | false =>
      have HT : Hid (hitB f n key p = false) := hh
      have E : Hid (dropC f g n key p = 5) := by show dropC f g n key p = 5; unfold dropC; rw [if_pos h0, hh]; rfl
      have EL : Hid (dropR f g n key p = listP f g n) := by show dropR f g n key p = _; unfold dropR; rw [if_pos h0, hh]; rfl
      have S0 : Hid (Src w a (cellsP (listP f g n))) := src_sp HH.out
      have T1 : Hid ((cellsP (listP f g n)).length = n * 2) := by show (cellsP (listP f g n)).length = n * 2; rw [cellsP_length, listP_length]
      clear h0 hh
      go_enter Try.func42, Try.ntmps42
      go_wp2_with fail
      refine (l01Ask _ n c f g key _ hn hk HS.out HH.out).mono ?_
      rintro e1 w1 ⟨rfl, hb⟩
      rw [H0.out]
      have B2 : Hid (Below w.heap.size w w1) := hb
      clear hb
      go_wp2_with fail
      refine (l01Get _ n c f g key p _ hn HP.out (HH.out.below B2.out)).mono ?_
      rintro e1 w2 ⟨rfl, rfl⟩
      rw [HT.out]
      go_wp2_with (at_builtin; refine wpList_append_src _ rfl _ _ 23 rfl w.heap.size 34 (.agg #[.string ⟨#[]⟩, .string ⟨#[]⟩]) 2 32 Try.underlying23 infoP rfl (by decide) (by decide) _ 0 [] rfl (OwnsP.made w1 _ B2.out.size) a n c (cellsP (listP f g n)) rfl T1.out (S0.out.below (B2.out.alloc B2.out.size _)) (cellsP_one _) (by omega) (le_alloc B2.out.size _) ?_; intro v1 w3 hown3 hgrow3; have B3 : Hid (Below w.heap.size w w3) := (B2.out.alloc B2.out.size _).grown hgrow3 (le_alloc B2.out.size _) (fun k e => by cases e; exact B2.out.size); have O3 : Hid (OwnsP w3 w.heap.size v1 (listP f g n)) := OwnsP.mk T1.out (by simpa using hown3); clear hown3 hgrow3)
      go_ret2
      exact ⟨_, ret_vi' E.out.symm, by rw [EL.out]; exact O3.out, B3.out⟩
  · have hne : (askC f g n key != 0) = true := by simpa using h0
    have E : Hid (dropC f g n key p = askC f g n key) := by show dropC f g n key p = _; unfold dropC; rw [if_neg h0]
    have EL : Hid (dropR f g n key p = []) := by show dropR f g n key p = []; unfold dropR; rw [if_neg h0]
    clear h0
    go_enter Try.func42, Try.ntmps42
    go_wp2_with fail
    refine (l01Ask _ n c f g key _ hn hk HS.out HH.out).mono ?_
    rintro e1 w1 ⟨rfl, hb⟩
    go_wp2_with fail
    go_ret2
    exact ⟨_, ret_vi' E.out.symm, by rw [EL.out]; exact OwnsP.made w1 _ hb.size, hb.alloc hb.size _⟩

set_option maxHeartbeats 2000000 in
theorem implPairPutA (a : Option Addr) (n c : Nat) (f g : Nat → ByteArray) (key val : ByteArray) (p : Nat) (w : World) (hn : n ≤ 1048576) (hc : n ≤ c) (hk : key.size ≤ 1048576) (hv : val.size ≤ 1048576) (hs : ∀ i, i < n → (f i).size ≤ 1048576 ∧ (g i).size ≤ 1048576) (hp : IsPlace f n key p) (h : Sp w a n f g) :
    Calls Try.prog 13 #[.slice a n c, .string key, .string val] w fun e w' => ∃ v, e = .returned (.tuple #[v, .int .i64 (putC f g n key val p)]) ∧ OwnsP w' w.heap.size v (putR f g n key val p) ∧ Below w.heap.size w w' := by
  have HP : Hid (IsPlace f n key p) := hp
  have HH : Hid (Sp w a n f g) := h
  have HS : Hid (∀ i, i < n → (f i).size ≤ 1048576 ∧ (g i).size ≤ 1048576) := hs
  have S0 : Hid (Src w a (cellsP (listP f g n))) := src_sp h
  have hpn := hp.1
  clear h hs hp
  by_cases h0 : faultC f g n key val = 0
  · have H0 : Hid (faultC f g n key val = 0) := h0
    have h60 := pairs_le f g n key val h0
    by_cases hfull : hitB f n key p = false ∧ n = 60
    · have E : Hid (putC f g n key val p = 7) := by show putC f g n key val p = 7; unfold putC; rw [if_pos h0, if_pos hfull]
      have ER : Hid (putR f g n key val p = listP f g n) := by show putR f g n key val p = _; unfold putR; rw [if_pos h0, if_pos hfull]
      have HT : Hid (hitB f n key p = false) := hfull.1
      have hlen : ((n : Int) == 60) = true := by simp; omega
      clear h0 hfull
      go_enter Try.func13, Try.ntmps13
      go_wp2_with fail
      refine (pairsFault _ n c f g key val _ hn hk hv HS.out HH.out).mono ?_
      rintro e1 w1 ⟨rfl, hb⟩
      rw [H0.out]
      go_wp2_with fail
      refine (pairPlace _ n c f g key p _ hn HP.out (HH.out.below hb)).mono ?_
      rintro e1 w2 ⟨rfl, hb2⟩
      rw [HT.out]
      have B0 : Hid (Below w.heap.size w w2) := hb.trans (hb2.mono hb.size)
      clear hb hb2
      go_wp2_with fail
      refine (copyPairsS a n c (listP f g n) _ (listP_length f g n) hn (S0.out.below B0.out)).mono ?_
      rintro e1 w3 ⟨v1, rfl, ho3, hb3⟩
      have O1 : Hid (OwnsP w3 w.heap.size v1 (listP f g n)) := ho3.weaken B0.out.size
      have B1 : Hid (Below w.heap.size w w3) := B0.out.trans (hb3.mono B0.out.size)
      clear ho3 hb3
      go_wp2_with fail
      go_ret2
      exact ⟨_, ret_vi' E.out.symm, by rw [ER.out]; exact O1.out, B1.out⟩
    have E : Hid (putC f g n key val p = 0) := by show putC f g n key val p = 0; unfold putC; rw [if_pos h0, if_neg hfull]
    have ER : Hid (putR f g n key val p = putL f g n key val p) := by show putR f g n key val p = _; unfold putR; rw [if_pos h0, if_neg hfull]
    cases hh : hitB f n key p with
    | false =>
      have HT : Hid (hitB f n key p = false) := hh
      have EL : Hid (putL f g n key val p = (listP f g n).take p ++ [(key, val)] ++ (listP f g n).drop p) := by show putL f g n key val p = _; unfold putL; rw [HT.out]; rfl
      have hlen : ((n : Int) == 60) = false := by
        have : ¬ n = 60 := fun e => hfull ⟨hh, e⟩
        exact beq_eq_false_iff_ne.2 (by omega)
      clear h0 hfull hh
      go_enter Try.func13, Try.ntmps13
      go_wp2_with fail
      refine (pairsFault _ n c f g key val _ hn hk hv HS.out HH.out).mono ?_
      rintro e1 w1 ⟨rfl, hb⟩
      rw [H0.out]
      go_wp2_with fail
      refine (pairPlace _ n c f g key p _ hn HP.out (HH.out.below hb)).mono ?_
      rintro e1 w2 ⟨rfl, hb2⟩
      rw [HT.out]
      have B0 : Hid (Below w.heap.size w w2) := hb.trans (hb2.mono hb.size)
      clear hb hb2
      go_wp2_with fail
      refine (replacedP a n c p p (listP f g n) (some ⟨w2.heap.size, 0, none⟩) 1 1 [(key, val)] _ (listP_length f g n) (by omega) hc hpn (by omega) rfl (by omega) (S0.out.below (B0.out.alloc B0.out.size _)) (src_two rfl)).mono ?_
      rintro e1 w3 ⟨v1, rfl, ho3, hb3⟩
      have O1 : Hid (OwnsP w3 w.heap.size v1 ((listP f g n).take p ++ [(key, val)] ++ (listP f g n).drop p)) := ho3.weaken (le_alloc B0.out.size _)
      have B1 : Hid (Below w.heap.size w w3) := ((B0.out.alloc B0.out.size _)).trans (hb3.mono ((B0.out.alloc B0.out.size _)).size)
      clear ho3 hb3
      go_wp2_with fail
      go_ret2
      exact ⟨_, ret_vi' E.out.symm, by rw [ER.out, EL.out]; exact O1.out, B1.out⟩
    | true =>
      have HT : Hid (hitB f n key p = true) := hh
      have EL : Hid (putL f g n key val p = (listP f g n).take p ++ [(key, val)] ++ (listP f g n).drop (p + 1)) := by show putL f g n key val p = _; unfold putL; rw [HT.out]; rfl
      have hlt : p < n := by unfold hitB at hh; simp at hh; exact hh.1
      clear h0 hfull hh
      go_enter Try.func13, Try.ntmps13
      go_wp2_with fail
      refine (pairsFault _ n c f g key val _ hn hk hv HS.out HH.out).mono ?_
      rintro e1 w1 ⟨rfl, hb⟩
      rw [H0.out]
      go_wp2_with fail
      refine (pairPlace _ n c f g key p _ hn HP.out (HH.out.below hb)).mono ?_
      rintro e1 w2 ⟨rfl, hb2⟩
      rw [HT.out]
      have B0 : Hid (Below w.heap.size w w2) := hb.trans (hb2.mono hb.size)
      clear hb hb2
      go_wp2_with fail
      rw [show (p : Int) + 1 = ((p + 1 : Nat) : Int) from by omega]
      refine (replacedP a n c p (p + 1) (listP f g n) (some ⟨w2.heap.size, 0, none⟩) 1 1 [(key, val)] _ (listP_length f g n) (by omega) hc hpn (by omega) rfl (by omega) (S0.out.below (B0.out.alloc B0.out.size _)) (src_two rfl)).mono ?_
      rintro e1 w3 ⟨v1, rfl, ho3, hb3⟩
      have O1 : Hid (OwnsP w3 w.heap.size v1 ((listP f g n).take p ++ [(key, val)] ++ (listP f g n).drop (p + 1))) := ho3.weaken (le_alloc B0.out.size _)
      have B1 : Hid (Below w.heap.size w w3) := ((B0.out.alloc B0.out.size _)).trans (hb3.mono ((B0.out.alloc B0.out.size _)).size)
      clear ho3 hb3
      go_wp2_with fail
      go_ret2
      exact ⟨_, ret_vi' E.out.symm, by rw [ER.out, EL.out]; exact O1.out, B1.out⟩
  · have hne : (faultC f g n key val != 0) = true := by simpa using h0
    have E : Hid (putC f g n key val p = faultC f g n key val) := by show putC f g n key val p = _; unfold putC; rw [if_neg h0]
    have ER : Hid (putR f g n key val p = []) := by show putR f g n key val p = []; unfold putR; rw [if_neg h0]
    clear h0
    go_enter Try.func13, Try.ntmps13
    go_wp2_with fail
    refine (pairsFault _ n c f g key val _ hn hk hv HS.out HH.out).mono ?_
    rintro e1 w1 ⟨rfl, hb⟩
    go_wp2_with fail
    go_ret2
    exact ⟨_, ret_vi' E.out.symm, by rw [ER.out]; exact OwnsP.nil _ _, hb⟩
set_option maxHeartbeats 2000000 in
theorem implPairDropA (a : Option Addr) (n c : Nat) (f g : Nat → ByteArray) (key : ByteArray) (p : Nat) (w : World) (hn : n ≤ 1048576) (hc : n ≤ c) (hk : key.size ≤ 1048576) (hs : ∀ i, i < n → (f i).size ≤ 1048576 ∧ (g i).size ≤ 1048576) (hp : IsPlace f n key p) (h : Sp w a n f g) :
    Calls Try.prog 16 #[.slice a n c, .string key] w fun e w' => ∃ v, e = .returned (.tuple #[v, .int .i64 (dropC f g n key p)]) ∧ OwnsP w' w.heap.size v (dropR f g n key p) ∧ Below w.heap.size w w' := by
  have hz : (⟨#[]⟩ : ByteArray).size ≤ 1048576 := by show 0 ≤ 1048576; omega
  have HZ : Hid ((⟨#[]⟩ : ByteArray).size ≤ 1048576) := hz
  clear hz
  have HP : Hid (IsPlace f n key p) := hp
  have HH : Hid (Sp w a n f g) := h
  have HS : Hid (∀ i, i < n → (f i).size ≤ 1048576 ∧ (g i).size ≤ 1048576) := hs
  have S0 : Hid (Src w a (cellsP (listP f g n))) := src_sp h
  have hpn := hp.1
  clear h hs hp
  by_cases h0 : askC f g n key = 0
  · have H0 : Hid (faultC f g n key ⟨#[]⟩ = 0) := by show faultC f g n key ⟨#[]⟩ = 0; rw [fault_ask]; exact h0
    have h60 := pairs_le f g n key ⟨#[]⟩ H0.out
    cases hh : hitB f n key p with
    | true =>
      have HT : Hid (hitB f n key p = true) := hh
      have E : Hid (dropC f g n key p = 0) := by show dropC f g n key p = 0; unfold dropC; rw [if_pos h0, if_pos hh]
      have ER : Hid (dropR f g n key p = (listP f g n).take p ++ [] ++ (listP f g n).drop (p + 1)) := by show dropR f g n key p = _; unfold dropR; rw [if_pos h0, if_pos hh, List.append_nil]
      have hlt : p < n := by unfold hitB at hh; simp at hh; exact hh.1
      clear h0 hh
      go_enter Try.func16, Try.ntmps16
      go_wp2_with fail
      refine (pairsFault _ n c f g key ⟨#[]⟩ _ hn hk HZ.out HS.out HH.out).mono ?_
      rintro e1 w1 ⟨rfl, hb⟩
      rw [H0.out]
      go_wp2_with fail
      refine (pairPlace _ n c f g key p _ hn HP.out (HH.out.below hb)).mono ?_
      rintro e1 w2 ⟨rfl, hb2⟩
      rw [HT.out]
      have B0 : Hid (Below w.heap.size w w2) := hb.trans (hb2.mono hb.size)
      clear hb hb2
      go_wp2_with fail
      rw [show (p : Int) + 1 = ((p + 1 : Nat) : Int) from by omega]
      refine (replacedP a n c p (p + 1) (listP f g n) none 0 0 ([] : List PM) _ (listP_length f g n) (by omega) hc hpn (by omega) rfl (by omega) (S0.out.below B0.out) (Src.nil _ _)).mono ?_
      rintro e1 w3 ⟨v1, rfl, ho3, hb3⟩
      have O1 : Hid (OwnsP w3 w.heap.size v1 ((listP f g n).take p ++ ([] : List PM) ++ (listP f g n).drop (p + 1))) := ho3.weaken B0.out.size
      have B1 : Hid (Below w.heap.size w w3) := (B0.out).trans (hb3.mono (B0.out).size)
      clear ho3 hb3
      go_wp2_with fail
      go_ret2
      exact ⟨_, ret_vi' E.out.symm, by rw [ER.out]; exact O1.out, B1.out⟩
    | false =>
      have HT : Hid (hitB f n key p = false) := hh
      have E : Hid (dropC f g n key p = 5) := by show dropC f g n key p = 5; unfold dropC; rw [if_pos h0, hh]; rfl
      have ER : Hid (dropR f g n key p = listP f g n) := by show dropR f g n key p = _; unfold dropR; rw [if_pos h0, hh]; rfl
      clear h0 hh
      go_enter Try.func16, Try.ntmps16
      go_wp2_with fail
      refine (pairsFault _ n c f g key ⟨#[]⟩ _ hn hk HZ.out HS.out HH.out).mono ?_
      rintro e1 w1 ⟨rfl, hb⟩
      rw [H0.out]
      go_wp2_with fail
      refine (pairPlace _ n c f g key p _ hn HP.out (HH.out.below hb)).mono ?_
      rintro e1 w2 ⟨rfl, hb2⟩
      rw [HT.out]
      have B0 : Hid (Below w.heap.size w w2) := hb.trans (hb2.mono hb.size)
      clear hb hb2
      go_wp2_with fail
      refine (copyPairsS a n c (listP f g n) _ (listP_length f g n) hn (S0.out.below B0.out)).mono ?_
      rintro e1 w3 ⟨v1, rfl, ho3, hb3⟩
      have O1 : Hid (OwnsP w3 w.heap.size v1 (listP f g n)) := ho3.weaken B0.out.size
      have B1 : Hid (Below w.heap.size w w3) := B0.out.trans (hb3.mono B0.out.size)
      clear ho3 hb3
      go_wp2_with fail
      go_ret2
      exact ⟨_, ret_vi' E.out.symm, by rw [ER.out]; exact O1.out, B1.out⟩
  · have hne : (faultC f g n key ⟨#[]⟩ != 0) = true := by rw [fault_ask]; simpa using h0
    have E : Hid (dropC f g n key p = faultC f g n key ⟨#[]⟩) := by show dropC f g n key p = _; unfold dropC; rw [if_neg h0, fault_ask]
    have ER : Hid (dropR f g n key p = []) := by show dropR f g n key p = []; unfold dropR; rw [if_neg h0]
    clear h0
    go_enter Try.func16, Try.ntmps16
    go_wp2_with fail
    refine (pairsFault _ n c f g key ⟨#[]⟩ _ hn hk HZ.out HS.out HH.out).mono ?_
    rintro e1 w1 ⟨rfl, hb⟩
    go_wp2_with fail
    go_ret2
    exact ⟨_, ret_vi' E.out.symm, by rw [ER.out]; exact OwnsP.nil _ _, hb⟩
end Go.Proofs.Ytmpaophegdeokaa
