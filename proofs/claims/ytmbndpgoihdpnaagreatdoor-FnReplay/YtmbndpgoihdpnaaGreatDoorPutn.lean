
/-
  Both PairPut and both PairDrop of any slice of pairs. By an AI agent.
-/
import Derived.Test.YtmbndpgoihdpnaaGreatDoorDroph
namespace Go.Proofs.YtmbndpgoihdpnaaGreatDoor
open Go.ChangeShapes Go.WideShapes Go.ChangeAt Go.RowKit Go.Deep
set_option linter.unusedVariables false
set_option maxRecDepth 100000

theorem src_sp {w : World} {a : Option Addr} {n : Nat} {f g : Nat → ByteArray} (h : Sp w a n f g) : Src w a (cellsP (listP f g n)) := by
  rcases h with h | ⟨b, o, rfl, hc⟩
  · subst h
    exact .inl rfl
  · refine .inr ⟨b, o, rfl, fun j hj => ?_⟩
    rw [cellsP_length, listP_length] at hj
    obtain ⟨c1, c2⟩ := cellsP_get (listP f g n) (j / 2) (by rw [listP_length]; omega)
    obtain ⟨h1, h2⟩ := hc (j / 2) (by omega)
    rw [listP_get f g n _ (by omega)] at c1 c2
    by_cases e : j % 2 = 0
    · rw [show j / 2 * 2 = j from by omega] at c1 h1
      rw [h1, getD_some c1]
    · rw [show j / 2 * 2 + 1 = j from by omega] at c2
      rw [show o + j / 2 * 2 + 1 = o + j from by omega] at h2
      rw [h2, getD_some c2]
theorem sp_of {w : World} {a : Option Addr} {L : List PM} {n : Nat} (h : Src w a (cellsP L)) (hn : L.length = n) : Sp w a n (fstL L) (sndL L) := by
  subst hn
  rcases h with h | ⟨b, o, rfl, hc⟩
  · refine .inl ?_
    have h2 := cellsP_length L
    rw [h] at h2
    simp only [List.length_nil] at h2
    omega
  · refine .inr ⟨b, o, rfl, fun i hi => ?_⟩
    obtain ⟨c1, c2⟩ := cellsP_get L i hi
    have h1 := hc (i * 2) (by rw [cellsP_length]; omega)
    have h2 := hc (i * 2 + 1) (by rw [cellsP_length]; omega)
    rw [getD_some c1] at h1
    rw [getD_some c2] at h2
    exact ⟨h1, h2⟩
theorem src_two {w : World} {x y : ByteArray} {B : Nat} (hB : B = w.heap.size) : Src (w.alloc (.cells #[.string x, .string y] 70)) (some ⟨B, 0, none⟩) (cellsP [(x, y)]) := by
  have hb : Box (w.alloc (.cells #[.string x, .string y] 70)) B [.string x, .string y] := Box.new hB
  refine .inr ⟨B, 0, rfl, fun j hj => ?_⟩
  have hj2 : j < 2 := hj
  rw [Nat.zero_add]
  match j, hj2 with
  | 0, _ => exact (hb 0 _ rfl).1
  | 1, _ => exact (hb 1 _ rfl).1
theorem OwnsP.row {w : World} {base : Nat} {v : Value} {L : List PM} {n : Nat} (h : OwnsP w base v L) (hn : L.length = n) : w.ownsRow base 70 2 v n (cellsP L) := by subst hn; exact h
theorem OwnsP.of {w : World} {base : Nat} {v : Value} {L : List PM} {n : Nat} (hn : L.length = n) (h : w.ownsRow base 70 2 v n (cellsP L)) : OwnsP w base v L := by subst hn; exact h

set_option maxHeartbeats 2000000 in
theorem l01PutA (a : Option Addr) (n c : Nat) (f g : Nat → ByteArray) (key val : ByteArray) (p : Nat) (w : World) (hn : n ≤ 4096) (hc : n ≤ c) (hp : IsPlace f n key p) (h : Sp w a n f g) :
    Calls Tryz.prog 88 #[.slice a n c, .string key, .string val] w fun e w' => ∃ v, e = .returned v ∧ OwnsP w' w.heap.size v (putL f g n key val p) ∧ Below w.heap.size w w' := by
  have HH : Hid (Sp w a n f g) := h
  have HP : Hid (IsPlace f n key p) := hp
  have hpn := hp.1
  have S0 : Src w a (cellsP (listP f g n)) := src_sp h
  have S1 : Hid (Src w a (cellsP ((listP f g n).take p))) := by have h9 := S0.head (p * 2); rw [cellsP_take] at h9; exact h9
  have SD : Hid (∀ q, q ≤ n → Src w (cutP a c q 2) (cellsP ((listP f g n).drop q))) := fun q hq => by have h9 := S0.tail (n := n) (c := c) (q := q) (s := 2) (by rw [cellsP_length, listP_length]) hq hc; rw [cellsP_drop] at h9; exact h9
  have cut1 := cut_h (P := Tryz.prog) (e := 70) Tryz.underlying28 (fun w => Tryz.sizeOf70 w) a n c p (by omega)
  have cut2 := cut_l (P := Tryz.prog) (e := 70) Tryz.underlying28 (fun w => Tryz.sizeOf70 w) a n c p hpn
  have T0 : Hid (((listP f g n).take p).length = p) := by show ((listP f g n).take p).length = p; rw [List.length_take, listP_length]; omega
  have TD : Hid (∀ q, ((listP f g n).drop q).length = n - q) := fun q => by rw [List.length_drop, listP_length]
  have hp9 : p ≤ 4096 := by omega
  clear h hp S0
  cases hh : hitB f n key p with
  | true =>
    have HT : Hid (hitB f n key p = true) := hh
    have hh2 := hh
    unfold hitB at hh2
    rw [Bool.and_eq_true, decide_eq_true_eq] at hh2
    obtain ⟨hlt, hq⟩ := hh2
    have hi1 : (p : Int) < (n : Int) := by omega
    obtain ⟨b, o, rfl, hc1⟩ : ∃ b o, a = some ⟨b, o, none⟩ ∧ w.cell? ⟨b, o + p * 2, none⟩ = some (.string (f p)) := by
      rcases HH.out with h0 | ⟨b, o, e, hcc⟩
      · omega
      · exact ⟨b, o, e, (hcc p hlt).1⟩
    have cut3 : ∀ W, (Instr.slice 28 (.slice (some ⟨b, o, none⟩) n c) (some (.int .i64 ((p : Int) + 1))) none none).run Tryz.prog W = .ok (.slice (cutP (some ⟨b, o, none⟩) c (p + 1) 2) (n - (p + 1)) (c - (p + 1))) W := fun W => by
      have h9 := cut_l (P := Tryz.prog) (e := 70) Tryz.underlying28 (fun w => Tryz.sizeOf70 w) (some ⟨b, o, none⟩) n c (p + 1) (by omega) W
      rwa [show ((p + 1 : Nat) : Int) = (p : Int) + 1 from by omega] at h9
    have S2 : Hid (Src w (cutP (some ⟨b, o, none⟩) c (p + 1) 2) (cellsP ((listP f g n).drop (p + 1)))) := SD.out (p + 1) (by omega)
    have T1 : Hid (((listP f g n).drop (p + 1)).length = n - (p + 1)) := TD.out _
    have EL : Hid (putL f g n key val p = (listP f g n).take p ++ [(key, val)] ++ (listP f g n).drop (p + 1)) := by show putL f g n key val p = _; unfold putL; rw [HT.out]; rfl
    generalize cutP (some ⟨b, o, none⟩) c p 2 = a9 at cut2
    generalize cutP (some ⟨b, o, none⟩) c (p + 1) 2 = a2 at cut3 S2
    obtain ⟨r, hr⟩ : ∃ r, n - (p + 1) = r := ⟨_, rfl⟩
    obtain ⟨cr, hcr⟩ : ∃ r, c - (p + 1) = r := ⟨_, rfl⟩
    rw [hr, hcr] at cut3
    rw [hr] at T1
    have hr9 : r ≤ 4096 := by omega
    clear hh hr hcr SD TD
    go_enter Tryz.func88, Tryz.ntmps88
    go_wp2_with fail
    refine (l01At _ n c f g key p _ (by omega) HP.out HH.out).mono ?_
    rintro e w' ⟨rfl, rfl⟩
    go_wp2_with (first | (at_builtin; refine wpList_append_src _ rfl (.tmp 41) (.tmp 42) 28 rfl w.heap.size 70 (.agg #[.string ⟨#[]⟩, .string ⟨#[]⟩]) 2 32 Tryz.underlying28 infoP rfl (by decide) (by decide) _ (p + 1) _ rfl O2.out a2 r cr (cellsP ((listP f g n).drop (p + 1))) rfl (by rw [cellsP_length, T1.out]) (S2.out.below B2.out) (cellsP_one _) (by omega) B2.out.size ?_; intro v3 w3 hown3 hgrow3; have B3 : Hid (Below w.heap.size w w3) := B2.out.grown hgrow3 B2.out.size (fun k e => (O2.out.lt k e).1); have O3 : Hid (OwnsP w3 w.heap.size v3 ((listP f g n).take p ++ [(key, val)] ++ (listP f g n).drop (p + 1))) := (OwnsP.of (n := p + 1 + r) (by rw [List.length_append, List.length_append, T0.out, T1.out]; rfl) (by rw [cellsP_append]; exact hown3)); clear hown3 hgrow3) | (at_builtin; refine wpList_append_src _ rfl (.tmp 36) (.tmp 40) 28 rfl w.heap.size 70 (.agg #[.string ⟨#[]⟩, .string ⟨#[]⟩]) 2 32 Tryz.underlying28 infoP rfl (by decide) (by decide) _ p _ rfl (O1.out.alloc _) (some ⟨w1.heap.size, 0, none⟩) 1 1 (cellsP [(key, val)]) rfl rfl (src_two rfl) (cellsP_one _) (by omega) (le_alloc B1.out.size _) ?_; intro v2 w2 hown2 hgrow2; have B2 : Hid (Below w.heap.size w w2) := (B1.out.alloc B1.out.size _).grown hgrow2 (le_alloc B1.out.size _) (fun k e => (O1.out.lt k e).1); have O2 : Hid (w2.ownsRow w.heap.size 70 2 v2 (p + 1) (cellsP ((listP f g n).take p ++ [(key, val)]))) := (by show World.ownsRow _ _ _ _ _ _ _; rw [cellsP_append]; exact hown2); clear hown2 hgrow2) | (at_builtin; refine wpList_append_src _ rfl (.tmp 32) (.tmp 35) 28 rfl w.heap.size 70 (.agg #[.string ⟨#[]⟩, .string ⟨#[]⟩]) 2 32 Tryz.underlying28 infoP rfl (by decide) (by decide) _ 0 [] rfl (OwnsP.made w _ (Nat.le_refl _)) (some ⟨b, o, none⟩) p c (cellsP ((listP f g n).take p)) rfl (by rw [cellsP_length, T0.out]) (S1.out.below ((Below.refl _ _).alloc (Nat.le_refl _) _)) (cellsP_one _) (by omega) (by simp) ?_; intro v1 w1 hown1 hgrow1; have B1 : Hid (Below w.heap.size w w1) := ((Below.refl _ _).alloc (Nat.le_refl _) _).grown hgrow1 (by simp) (fun k e => by cases e; exact Nat.le_refl _); have O1 : Hid (w1.ownsRow w.heap.size 70 2 v1 p (cellsP ((listP f g n).take p))) := (by show World.ownsRow _ _ _ _ _ _ _; have h9 := hown1; rw [Nat.zero_add, List.nil_append] at h9; exact h9); clear hown1 hgrow1))
    go_ret
    exact ⟨_, rfl, by rw [EL.out]; exact O3.out, B3.out⟩
  | false =>
    have HT : Hid (hitB f n key p = false) := hh
    have S2 : Hid (Src w (cutP a c p 2) (cellsP ((listP f g n).drop p))) := SD.out p hpn
    have T1 : Hid (((listP f g n).drop p).length = n - p) := TD.out _
    have EL : Hid (putL f g n key val p = (listP f g n).take p ++ [(key, val)] ++ (listP f g n).drop p) := by show putL f g n key val p = _; unfold putL; rw [HT.out]; rfl
    generalize cutP a c p 2 = a2 at cut2 S2
    obtain ⟨r, hr⟩ : ∃ r, n - p = r := ⟨_, rfl⟩
    obtain ⟨cr, hcr⟩ : ∃ r, c - p = r := ⟨_, rfl⟩
    rw [hr, hcr] at cut2
    rw [hr] at T1
    have hr9 : r ≤ 4096 := by omega
    unfold hitB at hh
    clear hr hcr SD TD
    by_cases hlt : p < n
    · have hi1 : (p : Int) < (n : Int) := by omega
      obtain ⟨b, o, rfl, hc1⟩ : ∃ b o, a = some ⟨b, o, none⟩ ∧ w.cell? ⟨b, o + p * 2, none⟩ = some (.string (f p)) := by
        rcases HH.out with h0 | ⟨b, o, e, hcc⟩
        · omega
        · exact ⟨b, o, e, (hcc p hlt).1⟩
      rw [decide_eq_true hlt, Bool.true_and] at hh
      go_enter Tryz.func88, Tryz.ntmps88
      go_wp2_with fail
      refine (l01At _ n c f g key p _ (by omega) HP.out HH.out).mono ?_
      rintro e w' ⟨rfl, rfl⟩
      go_wp2_with (first | (at_builtin; refine wpList_append_src _ rfl (.tmp 41) (.tmp 42) 28 rfl w.heap.size 70 (.agg #[.string ⟨#[]⟩, .string ⟨#[]⟩]) 2 32 Tryz.underlying28 infoP rfl (by decide) (by decide) _ (p + 1) _ rfl O2.out a2 r cr (cellsP ((listP f g n).drop p)) rfl (by rw [cellsP_length, T1.out]) (S2.out.below B2.out) (cellsP_one _) (by omega) B2.out.size ?_; intro v3 w3 hown3 hgrow3; have B3 : Hid (Below w.heap.size w w3) := B2.out.grown hgrow3 B2.out.size (fun k e => (O2.out.lt k e).1); have O3 : Hid (OwnsP w3 w.heap.size v3 ((listP f g n).take p ++ [(key, val)] ++ (listP f g n).drop p)) := (OwnsP.of (n := p + 1 + r) (by rw [List.length_append, List.length_append, T0.out, T1.out]; rfl) (by rw [cellsP_append]; exact hown3)); clear hown3 hgrow3) | (at_builtin; refine wpList_append_src _ rfl (.tmp 36) (.tmp 40) 28 rfl w.heap.size 70 (.agg #[.string ⟨#[]⟩, .string ⟨#[]⟩]) 2 32 Tryz.underlying28 infoP rfl (by decide) (by decide) _ p _ rfl (O1.out.alloc _) (some ⟨w1.heap.size, 0, none⟩) 1 1 (cellsP [(key, val)]) rfl rfl (src_two rfl) (cellsP_one _) (by omega) (le_alloc B1.out.size _) ?_; intro v2 w2 hown2 hgrow2; have B2 : Hid (Below w.heap.size w w2) := (B1.out.alloc B1.out.size _).grown hgrow2 (le_alloc B1.out.size _) (fun k e => (O1.out.lt k e).1); have O2 : Hid (w2.ownsRow w.heap.size 70 2 v2 (p + 1) (cellsP ((listP f g n).take p ++ [(key, val)]))) := (by show World.ownsRow _ _ _ _ _ _ _; rw [cellsP_append]; exact hown2); clear hown2 hgrow2) | (at_builtin; refine wpList_append_src _ rfl (.tmp 32) (.tmp 35) 28 rfl w.heap.size 70 (.agg #[.string ⟨#[]⟩, .string ⟨#[]⟩]) 2 32 Tryz.underlying28 infoP rfl (by decide) (by decide) _ 0 [] rfl (OwnsP.made w _ (Nat.le_refl _)) (some ⟨b, o, none⟩) p c (cellsP ((listP f g n).take p)) rfl (by rw [cellsP_length, T0.out]) (S1.out.below ((Below.refl _ _).alloc (Nat.le_refl _) _)) (cellsP_one _) (by omega) (by simp) ?_; intro v1 w1 hown1 hgrow1; have B1 : Hid (Below w.heap.size w w1) := ((Below.refl _ _).alloc (Nat.le_refl _) _).grown hgrow1 (by simp) (fun k e => by cases e; exact Nat.le_refl _); have O1 : Hid (w1.ownsRow w.heap.size 70 2 v1 p (cellsP ((listP f g n).take p))) := (by show World.ownsRow _ _ _ _ _ _ _; have h9 := hown1; rw [Nat.zero_add, List.nil_append] at h9; exact h9); clear hown1 hgrow1))
      go_ret
      exact ⟨_, rfl, by rw [EL.out]; exact O3.out, B3.out⟩
    · have hi1 : ¬ (p : Int) < (n : Int) := by omega
      clear hh
      go_enter Tryz.func88, Tryz.ntmps88
      go_wp2_with fail
      refine (l01At _ n c f g key p _ (by omega) HP.out HH.out).mono ?_
      rintro e w' ⟨rfl, rfl⟩
      go_wp2_with (first | (at_builtin; refine wpList_append_src _ rfl (.tmp 41) (.tmp 42) 28 rfl w.heap.size 70 (.agg #[.string ⟨#[]⟩, .string ⟨#[]⟩]) 2 32 Tryz.underlying28 infoP rfl (by decide) (by decide) _ (p + 1) _ rfl O2.out a2 r cr (cellsP ((listP f g n).drop p)) rfl (by rw [cellsP_length, T1.out]) (S2.out.below B2.out) (cellsP_one _) (by omega) B2.out.size ?_; intro v3 w3 hown3 hgrow3; have B3 : Hid (Below w.heap.size w w3) := B2.out.grown hgrow3 B2.out.size (fun k e => (O2.out.lt k e).1); have O3 : Hid (OwnsP w3 w.heap.size v3 ((listP f g n).take p ++ [(key, val)] ++ (listP f g n).drop p)) := (OwnsP.of (n := p + 1 + r) (by rw [List.length_append, List.length_append, T0.out, T1.out]; rfl) (by rw [cellsP_append]; exact hown3)); clear hown3 hgrow3) | (at_builtin; refine wpList_append_src _ rfl (.tmp 36) (.tmp 40) 28 rfl w.heap.size 70 (.agg #[.string ⟨#[]⟩, .string ⟨#[]⟩]) 2 32 Tryz.underlying28 infoP rfl (by decide) (by decide) _ p _ rfl (O1.out.alloc _) (some ⟨w1.heap.size, 0, none⟩) 1 1 (cellsP [(key, val)]) rfl rfl (src_two rfl) (cellsP_one _) (by omega) (le_alloc B1.out.size _) ?_; intro v2 w2 hown2 hgrow2; have B2 : Hid (Below w.heap.size w w2) := (B1.out.alloc B1.out.size _).grown hgrow2 (le_alloc B1.out.size _) (fun k e => (O1.out.lt k e).1); have O2 : Hid (w2.ownsRow w.heap.size 70 2 v2 (p + 1) (cellsP ((listP f g n).take p ++ [(key, val)]))) := (by show World.ownsRow _ _ _ _ _ _ _; rw [cellsP_append]; exact hown2); clear hown2 hgrow2) | (at_builtin; refine wpList_append_src _ rfl (.tmp 32) (.tmp 35) 28 rfl w.heap.size 70 (.agg #[.string ⟨#[]⟩, .string ⟨#[]⟩]) 2 32 Tryz.underlying28 infoP rfl (by decide) (by decide) _ 0 [] rfl (OwnsP.made w _ (Nat.le_refl _)) a p c (cellsP ((listP f g n).take p)) rfl (by rw [cellsP_length, T0.out]) (S1.out.below ((Below.refl _ _).alloc (Nat.le_refl _) _)) (cellsP_one _) (by omega) (by simp) ?_; intro v1 w1 hown1 hgrow1; have B1 : Hid (Below w.heap.size w w1) := ((Below.refl _ _).alloc (Nat.le_refl _) _).grown hgrow1 (by simp) (fun k e => by cases e; exact Nat.le_refl _); have O1 : Hid (w1.ownsRow w.heap.size 70 2 v1 p (cellsP ((listP f g n).take p))) := (by show World.ownsRow _ _ _ _ _ _ _; have h9 := hown1; rw [Nat.zero_add, List.nil_append] at h9; exact h9); clear hown1 hgrow1))
      go_ret
      exact ⟨_, rfl, by rw [EL.out]; exact O3.out, B3.out⟩
end Go.Proofs.YtmbndpgoihdpnaaGreatDoor
