
/-
  Bytes with their sum behind them: the program's sealed and the specification's l03Sealed. By an AI agent.
-/
import Derived.Test.YtlkobhighhkmoaaDoorImplSum
import Derived.Test.YtlkobhighhkmoaaDoorNum4
import Derived.Deep.RegionLawGrows
namespace Go.Proofs.YtlkobhighhkmoaaDoor
open Go.ChangeShapes Go.WideShapes Go.ChangeAt Go.RowKit Go.Deep
set_option linter.unusedVariables false
set_option maxRecDepth 100000

abbrev zL (L : List Nat) : Nat → Nat := fun i => L.getD i 0
def sumL (L : List Nat) : Nat := crc (zL L) L.length
def sealB (L : List Nat) : List Nat := L ++ numQ (sumL L)
theorem sumL_lt (L : List Nat) : sumL L < 4294967296 := by
  unfold sumL crc
  split
  · omega
  · exact Nat.xor_lt_two_pow (n := 32) (crcTo_lt _ _) (by omega)
theorem zL_lt {L : List Nat} (h : ∀ x ∈ L, x < 256) : ∀ i, zL L i < 256 := fun i => by
  by_cases hi : i < L.length
  · show L.getD i 0 < 256
    rw [List.getD_eq_getElem?_getD, List.getElem?_eq_getElem hi]; exact h _ (List.getElem_mem _)
  · show L.getD i 0 < 256
    rw [List.getD_eq_getElem?_getD, List.getElem?_eq_none (by omega)]; decide
theorem sl_src {w : World} {a : Option Addr} {L : List Nat} {n : Nat} (h : Src w a (cellsB L)) (hn : L.length = n) : Sl w a n (BV (zL L)) := by
  subst hn
  rcases h with h | ⟨b, o, rfl, hc⟩
  · have h2 := cellsB_length L
    rw [h] at h2
    exact .inl (by simpa using h2.symm)
  · refine .inr ⟨b, o, rfl, fun i hi => ?_⟩
    have h1 := hc i (by rw [cellsB_length]; exact hi)
    rw [getD_some (cellsB_get L i hi)] at h1
    exact h1
theorem l01CheckL (a : Option Addr) (n c : Nat) (L : List Nat) (w : World) (hL : L.length = n) (hn : n ≤ 65536) (hlt : ∀ x ∈ L, x < 256) (h : Src w a (cellsB L)) :
    Calls Tryd.prog 83 #[.slice a n c] w fun e w' => e = .returned (.int .i64 ((sumL L : Nat) : Int)) ∧ Below w.heap.size w w' := by
  have h1 := l01Check a n c (zL L) w (by omega) (zL_lt hlt) (sl_src h hL)
  have e1 : sumL L = crcTo (zL L) n ^^^ 4294967295 := by unfold sumL crc; rw [hL, if_neg (by omega)]
  rw [← e1] at h1
  exact h1
theorem check32L (a : Option Addr) (n c : Nat) (L : List Nat) (w : World) (hL : L.length = n) (hn : n ≤ 1048576) (hlt : ∀ x ∈ L, x < 256) (h : Src w a (cellsB L)) (hH : HasHalf w) :
    Calls Tryd.prog 80 #[.slice a n c] w fun e w' => e = .returned (.int .i64 ((sumL L : Nat) : Int)) ∧ w = w' := by
  have h1 := implCheck32 a n c (zL L) w hn (zL_lt hlt) (sl_src h hL) hH
  have e1 : sumL L = crc (zL L) n := by unfold sumL; rw [hL]
  rw [← e1] at h1
  exact h1

set_option maxHeartbeats 1000000 in
theorem l03Sealed (v : Value) (n base : Nat) (L : List Nat) (w : World) (hL : L.length = n) (hn : n ≤ 65536) (hlt : ∀ x ∈ L, x < 256) (hbase : base ≤ w.heap.size) (h : w.ownsRow base 5 1 v n (cellsB L)) :
    Calls Tryd.prog 48 #[v] w fun e w' => ∃ v', e = .returned v' ∧ w'.ownsRow base 5 1 v' (n + 4) (cellsB (sealB L)) ∧ Below base w w' := by
  obtain ⟨a, c, rfl, hs, _⟩ := own_src h
  obtain ⟨s, hs9⟩ : ∃ s, sumL L = s := ⟨_, rfl⟩
  have HO : Hid (w.ownsRow base 5 1 (.slice a n c) n (cellsB L)) := h
  have HC : Hid (Calls Tryd.prog 83 #[.slice a n c] w fun e w' => e = .returned (.int .i64 ((s : Nat) : Int)) ∧ Below w.heap.size w w') := by rw [← hs9]; exact l01CheckL a n c L w hL hn hlt hs
  have HS : Hid (s < 4294967296 ∧ sealB L = L ++ numQ s) := ⟨by rw [← hs9]; exact sumL_lt L, by unfold sealB; rw [hs9]⟩
  clear h hs hs9 hlt
  go_enter Tryd.func48, Tryd.ntmps48
  go_wp2_with fail
  refine HC.out.mono ?_
  rintro e w1 ⟨rfl, hb1⟩
  have B1 : Hid (Below base w w1) := hb1.mono hbase
  have O1 : Hid (w1.ownsRow base 5 1 (.slice a n c) n (cellsB L)) := own_below HO.out hb1
  have Z1 : Hid (w.heap.size ≤ w1.heap.size) := hb1.size
  clear hb1
  go_wp2_with fail
  refine (l01Number4 s _ HS.out.1).mono ?_
  rintro e w2 ⟨v2, rfl, o2, hb2⟩
  have B2 : Hid (Below base w w2) := B1.out.trans (hb2.mono (by have := Z1.out; omega))
  have O2 : Hid (w2.ownsRow base 5 1 (.slice a n c) n (cellsB L)) := own_below O1.out hb2
  have Z2 : Hid (base ≤ w2.heap.size) := by have := Z1.out; have := hb2.size; show base ≤ w2.heap.size; omega
  obtain ⟨a2, c2, rfl, s2, _⟩ := own_src o2
  have S2 : Hid (Src w2 a2 (cellsB (numQ s))) := s2
  clear hb2 o2 s2 O1 B1
  have hlt3 : Hid (∀ g, Value.ownBlock (.slice a n c) = some g → base ≤ g) := fun g e => (O2.out.lt g e).1
  go_wp2_with (at_builtin; refine wpList_append_src _ rfl _ _ 43 rfl base 5 (.int .u8 0) 1 1 Tryd.underlying43 infoB rfl (by decide) (by decide) _ n (cellsB L) rfl O2.out a2 4 c2 (cellsB (numQ s)) rfl rfl S2.out (cellsB_one _) (by omega) Z2.out ?_)
  intro v3 w3 hown3 hgrow3
  have O3 : Hid (w3.ownsRow base 5 1 v3 (n + 4) (cellsB (sealB L))) := by rw [HS.out.2, cellsB_append]; exact hown3
  have B3 : Hid (Below base w w3) := B2.out.grown hgrow3 Z2.out hlt3.out
  clear hown3 hgrow3
  go_wp2_with fail
  go_ret
  exact ⟨_, rfl, O3.out, B3.out⟩

/-- What a row of one's own that is not empty is as a slice. -/
theorem own_some {w : World} {base e s n : Nat} {v : Value} {xs : List Value} (h : w.ownsRow base e s v n xs) (hn : 0 < n) : ∃ g cap, v = .slice (some ⟨g, 0, none⟩) n cap ∧ n ≤ cap ∧ Src w (some ⟨g, 0, none⟩) xs := by
  obtain ⟨a, c, rfl, hs, _⟩ := own_src h
  obtain ⟨hl, ⟨hv, h0⟩ | ⟨g, cap, cur, hv, hb, hg, hc1, hc2, hsz, ht⟩⟩ := h
  · omega
  · cases hv
    exact ⟨g, c, rfl, hc1, hs⟩
/-- Bytes that were just laid. -/
theorem own_new {w : World} {base t : Nat} {zs : List Nat} {cs : Array Value} {n : Nat} (hb : base ≤ w.heap.size) (hc : cs.toList = cellsB zs) (hn : zs.length = n) (hm : n ≤ 65536) (ht : t = 5) : (w.alloc (.cells cs t)).ownsRow base 5 1 (.slice (some ⟨w.heap.size, 0, none⟩) n n) n (cellsB zs) := by
  subst ht
  have hsz : cs.size = n := by rw [← Array.length_toList, hc, cellsB_length, hn]
  refine ⟨by rw [cellsB_length, hn]; omega, .inr ⟨w.heap.size, n, cs, rfl, hb, heap_alloc_new _ _, Nat.le_refl _, by unfold maxLen; omega, by rw [hsz]; omega, ?_⟩⟩
  rw [hc, List.take_of_length_le (by rw [cellsB_length, hn]; omega)]
set_option maxHeartbeats 1000000 in
theorem numberBytes (x : Nat) (w : World) (hx : x < 4294967296) :
    Calls Tryd.prog 43 #[.int .i64 (x : Int)] w fun e w' => e = .returned (.slice (some ⟨w.heap.size, 0, none⟩) 4 4) ∧ w'.ownsRow w.heap.size 5 1 (.slice (some ⟨w.heap.size, 0, none⟩) 4 4) 4 (cellsB (numQ x)) ∧ Below w.heap.size w w' := by
  have HX : Hid (x < 4294967296) := hx
  go_enter Tryd.func43, Tryd.ntmps43
  go_wp2_with fail
  go_ret
  refine ⟨rfl, own_new (Nat.le_refl _) ?_ rfl (by omega) rfl, (Below.refl _ _).alloc (Nat.le_refl _) _⟩
  simp [cellsB, numQ]
  first | done | omega
set_option maxHeartbeats 1000000 in
theorem implSealed (b o n c : Nat) (L : List Nat) (w : World) (hL : L.length = n) (hn : n ≤ 65536) (hc : n ≤ c) (hlt : ∀ x ∈ L, x < 256) (h : Src w (some ⟨b, o, none⟩) (cellsB L)) (hH : HasHalf w) :
    Calls Tryd.prog 52 #[.slice (some ⟨b, o, none⟩) n c] w fun e w' => ∃ v', e = .returned v' ∧ w'.ownsRow w.heap.size 5 1 v' (n + 4) (cellsB (sealB L)) ∧ Below w.heap.size w w' := by
  obtain ⟨s, hs9⟩ : ∃ s, sumL L = s := ⟨_, rfl⟩
  have HC : Hid (Calls Tryd.prog 80 #[.slice (some ⟨b, o, none⟩) n c] w.drew fun e w' => e = .returned (.int .i64 ((s : Nat) : Int)) ∧ w.drew = w') := by rw [← hs9]; exact check32L _ n c L w.drew hL (by omega) hlt h hH
  have HSL : Hid (s < 4294967296 ∧ sealB L = L ++ numQ s) := ⟨by rw [← hs9]; exact sumL_lt L, by unfold sealB; rw [hs9]⟩
  have HR : Hid (Src w.drew (some ⟨b, o, none⟩) (cellsB L)) := h
  have hnc : (n : Int) ≤ (c : Int) := by omega
  clear h hs9 hlt hH
  go_enter Tryd.func52, Tryd.ntmps52
  go_wp2_with fail
  refine wp_region_any (by kernel_rfl) ?_
  change wpAny _ _ _ _ _ _ _ (World.drew _)
  refine reg_take 0 3 (.slice (some ⟨b, o, none⟩) n c) rfl rfl (by kernel_rfl) (by kernel_rfl) (by kernel_rfl) (fun _ _ _ _ _ h => h) (by kernel_rfl) (by intro w; go_simp) ?_
  refine reg_take 1 4 (.slice (some ⟨b, o, none⟩) n c) rfl rfl (by kernel_rfl) (by kernel_rfl) (by kernel_rfl) (fun _ _ _ _ _ h => h) (by kernel_rfl) (by intro w; go_simp) ?_
  refine reg_take 2 5 (.int .i64 (n : Int)) rfl rfl (by kernel_rfl) (by kernel_rfl) (by kernel_rfl) (fun _ _ _ _ _ h => h) (by kernel_rfl) (by intro w; go_simp) ?_
  refine reg_take 3 6 (.slice (some ⟨b, o, none⟩) n c) rfl rfl (by kernel_rfl) (by kernel_rfl) (by kernel_rfl) (fun _ _ _ _ _ h => h) (by kernel_rfl) (by intro w; go_simp) ?_
  refine reg_take 4 7 (.int .i64 (n : Int)) rfl rfl (by kernel_rfl) (by kernel_rfl) (by kernel_rfl) (fun _ _ _ _ _ h => h) (by kernel_rfl) (by intro w; go_simp) ?_
  refine reg_take 5 8 (.slice (some ⟨b, o, none⟩) n n) rfl rfl (by kernel_rfl) (by kernel_rfl) (by kernel_rfl) (fun _ _ _ _ _ h => h) (by kernel_rfl) (by intro w; go_simp) ?_
  refine reg_take 6 9 (.slice (some ⟨b, o, none⟩) n c) rfl rfl (by kernel_rfl) (by kernel_rfl) (by kernel_rfl) (fun _ _ _ _ _ h => h) (by kernel_rfl) (by intro w; go_simp) ?_
  refine wpAny_ready (rs := [7]) (by kernel_rfl) (by simp) ?_
  refine AllReady.cons rfl (fun K hK => ?_) AllReady.nil
  go_simp
  go_wp2_with (go_at_call 80; refine HC.out.mono ?_; rintro e w1 ⟨rfl, hw1⟩; obtain rfl := hw1.symm)
  refine wpAny_ready (rs := [8]) (by kernel_rfl) (by simp) ?_
  refine AllReady.cons rfl (fun K hK => ?_) AllReady.nil
  go_simp
  go_wp2_with (go_at_call 43; refine (numberBytes s _ HSL.out.1).mono ?_; rintro e w2 ⟨rfl, o2, hb2⟩)
  obtain ⟨i5, hi5, hz5⟩ := Option.map_eq_some_iff.1 infoB
  simp only [Prod.mk.injEq] at hz5
  have O2 : Hid (Src w2 (some ⟨w.heap.size, 0, none⟩) (cellsB (numQ s))) := by
    obtain ⟨a9, c9, e9, s9, _⟩ := own_src o2
    cases e9; exact s9
  have B2 : Hid (Below w.heap.size w w2) := (Below.refl w.heap.size w).drew.trans hb2
  have Z2 : Hid (w.heap.size ≤ w2.heap.size) := hb2.size
  have HR2 : Hid (Src w2 (some ⟨b, o, none⟩) (cellsB L)) := HR.out.below hb2
  clear o2 hb2
  refine wpAny_ready (rs := [9]) (by kernel_rfl) (by simp) ?_
  refine AllReady.cons rfl (fun K hK => ?_) AllReady.nil
  refine step_append_grows rfl (.tmp 8) (.tmp 11) 43 rfl 5 i5 (.int .u8 0) 1 1 Tryd.underlying43 hi5 hz5.1 hz5.2.1 hz5.2.2 rfl (by decide) (some ⟨b, o, none⟩) n n (cellsB L) rfl (fun e => by cases e) (by rw [cellsB_length, hL]; omega) (fun b9 e9 => by cases e9; exact Src.news HR2.out) ⟨w.heap.size, 0, none⟩ 4 4 (cellsB (numQ s)) rfl rfl (Src.news O2.out) (cellsB_one _) (by omega) (by unfold maxLen; omega) (by omega) ?_
  intro v3 w3 hown3 hgrow3
  have O3 : Hid (w3.ownsRow w.heap.size 5 1 v3 (n + 4) (cellsB (sealB L))) := by rw [HSL.out.2, cellsB_append]; exact own_mono hown3 Z2.out
  have B3 : Hid (Below w.heap.size w w3) := B2.out.grown hgrow3 Z2.out (fun k e => by cases e)
  clear hown3 hgrow3
  refine hK _ _ ?_
  clear hK K
  refine reg_take 10 2 v3 rfl rfl (by kernel_rfl) (by kernel_rfl) (by kernel_rfl) (fun _ _ _ _ _ h => h) (by kernel_rfl) (by intro w; go_simp) ?_
  refine wpAny_done (by kernel_rfl) ?_ _
  go_wp2_with fail
  go_ret
  exact ⟨_, rfl, O3.out, B3.out⟩
end Go.Proofs.YtlkobhighhkmoaaDoor
