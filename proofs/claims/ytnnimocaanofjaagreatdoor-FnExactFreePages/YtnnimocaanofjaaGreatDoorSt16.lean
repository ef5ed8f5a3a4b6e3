/-
  Texts of the store, brought together: Seal, Snaps. By an AI agent.
-/
import Derived.Test.YtnnimocaanofjaaGreatDoorSt15
import Derived.Deep.RegionLawGrows
import Derived.Test.YtnnimocaanofjaaGreatDoorSt02
/-
  Bytes with their sum behind them: the program's sealed and the specification's l03Sealed. By an AI agent.
-/
namespace Go.Proofs.YtnnimocaanofjaaGreatDoor
open Go.ChangeShapes Go.WideShapes Go.ChangeAt Go.RowKit Go.Deep
set_option linter.unusedVariables false
set_option maxRecDepth 100000

abbrev zL (L : List Nat) : Nat → Nat := fun i => L.getD i 0
def sumL (L : List Nat) : Nat := crc (zL L) L.length
def sealB (L : List Nat) : List Nat := L ++ numQ (sumL L)
theorem sumL_lt (L : List Nat) : sumL L < 4294967296 := by
  unfold sumL crc
  split
  · omega
  · exact Nat.xor_lt_two_pow (n := 32) (crcTo_lt _ _) (by omega)
theorem zL_lt {L : List Nat} (h : ∀ x ∈ L, x < 256) : ∀ i, zL L i < 256 := fun i => by
  by_cases hi : i < L.length
  · show L.getD i 0 < 256
    rw [List.getD_eq_getElem?_getD, List.getElem?_eq_getElem hi]; exact h _ (List.getElem_mem _)
  · show L.getD i 0 < 256
    rw [List.getD_eq_getElem?_getD, List.getElem?_eq_none (by omega)]; decide
theorem sl_src {w : World} {a : Option Addr} {L : List Nat} {n : Nat} (h : Src w a (cellsB L)) (hn : L.length = n) : Sl w a n (BV (zL L)) := by
  subst hn
  rcases h with h | ⟨b, o, rfl, hc⟩
  · have h2 := cellsB_length L
    rw [h] at h2
    exact .inl (by simpa using h2.symm)
  · refine .inr ⟨b, o, rfl, fun i hi => ?_⟩
    have h1 := hc i (by rw [cellsB_length]; exact hi)
    rw [getD_some (cellsB_get L i hi)] at h1
    exact h1
theorem l01CheckL (a : Option Addr) (n c : Nat) (L : List Nat) (w : World) (hL : L.length = n) (hn : n ≤ 65536) (hlt : ∀ x ∈ L, x < 256) (h : Src w a (cellsB L)) :
    Calls Tryz.prog 123 #[.slice a n c] w fun e w' => e = .returned (.int .i64 ((sumL L : Nat) : Int)) ∧ Below w.heap.size w w' := by
  have h1 := l01Check a n c (zL L) w (by omega) (zL_lt hlt) (sl_src h hL)
  have e1 : sumL L = crcTo (zL L) n ^^^ 4294967295 := by unfold sumL crc; rw [hL, if_neg (by omega)]
  rw [← e1] at h1
  exact h1
theorem check32L (a : Option Addr) (n c : Nat) (L : List Nat) (w : World) (hL : L.length = n) (hn : n ≤ 1048576) (hlt : ∀ x ∈ L, x < 256) (h : Src w a (cellsB L)) (hH : HasHalf w) :
    Calls Tryz.prog 183 #[.slice a n c] w fun e w' => e = .returned (.int .i64 ((sumL L : Nat) : Int)) ∧ w = w' := by
  have h1 := implCheck32 a n c (zL L) w hn (zL_lt hlt) (sl_src h hL) hH
  have e1 : sumL L = crc (zL L) n := by unfold sumL; rw [hL]
  rw [← e1] at h1
  exact h1

set_option maxHeartbeats 1000000 in
theorem l03Sealed (v : Value) (n base : Nat) (L : List Nat) (w : World) (hL : L.length = n) (hn : n ≤ 65536) (hlt : ∀ x ∈ L, x < 256) (hbase : base ≤ w.heap.size) (h : w.ownsRow base 5 1 v n (cellsB L)) :
    Calls Tryz.prog 82 #[v] w fun e w' => ∃ v', e = .returned v' ∧ w'.ownsRow base 5 1 v' (n + 4) (cellsB (sealB L)) ∧ Below base w w' := by
  obtain ⟨a, c, rfl, hs, _⟩ := own_src h
  obtain ⟨s, hs9⟩ : ∃ s, sumL L = s := ⟨_, rfl⟩
  have HO : Hid (w.ownsRow base 5 1 (.slice a n c) n (cellsB L)) := h
  have HC : Hid (Calls Tryz.prog 123 #[.slice a n c] w fun e w' => e = .returned (.int .i64 ((s : Nat) : Int)) ∧ Below w.heap.size w w') := by rw [← hs9]; exact l01CheckL a n c L w hL hn hlt hs
  have HS : Hid (s < 4294967296 ∧ sealB L = L ++ numQ s) := ⟨by rw [← hs9]; exact sumL_lt L, by unfold sealB; rw [hs9]⟩
  clear h hs hs9 hlt
  go_enter Tryz.func82, Tryz.ntmps82
  go_wp2_with fail
  refine HC.out.mono ?_
  rintro e w1 ⟨rfl, hb1⟩
  have B1 : Hid (Below base w w1) := hb1.mono hbase
  have O1 : Hid (w1.ownsRow base 5 1 (.slice a n c) n (cellsB L)) := own_below HO.out hb1
  have Z1 : Hid (w.heap.size ≤ w1.heap.size) := hb1.size
  clear hb1
  go_wp2_with fail
  refine (l01Number4 s _ HS.out.1).mono ?_
  rintro e w2 ⟨v2, rfl, o2, hb2⟩
  have B2 : Hid (Below base w w2) := B1.out.trans (hb2.mono (by have := Z1.out; omega))
  have O2 : Hid (w2.ownsRow base 5 1 (.slice a n c) n (cellsB L)) := own_below O1.out hb2
  have Z2 : Hid (base ≤ w2.heap.size) := by have := Z1.out; have := hb2.size; show base ≤ w2.heap.size; omega
  obtain ⟨a2, c2, rfl, s2, _⟩ := own_src o2
  have S2 : Hid (Src w2 a2 (cellsB (numQ s))) := s2
  clear hb2 o2 s2 O1 B1
  have hlt3 : Hid (∀ g, Value.ownBlock (.slice a n c) = some g → base ≤ g) := fun g e => (O2.out.lt g e).1
  go_wp2_with (at_builtin; refine wpList_append_src _ rfl _ _ 74 rfl base 5 (.int .u8 0) 1 1 Tryz.underlying74 infoB rfl (by decide) (by decide) _ n (cellsB L) rfl O2.out a2 4 c2 (cellsB (numQ s)) rfl rfl S2.out (cellsB_one _) (by omega) Z2.out ?_)
  intro v3 w3 hown3 hgrow3
  have O3 : Hid (w3.ownsRow base 5 1 v3 (n + 4) (cellsB (sealB L))) := by rw [HS.out.2, cellsB_append]; exact hown3
  have B3 : Hid (Below base w w3) := B2.out.grown hgrow3 Z2.out hlt3.out
  clear hown3 hgrow3
  go_wp2_with fail
  go_ret
  exact ⟨_, rfl, O3.out, B3.out⟩

/-- What a row of one's own that is not empty is as a slice. -/
theorem own_some {w : World} {base e s n : Nat} {v : Value} {xs : List Value} (h : w.ownsRow base e s v n xs) (hn : 0 < n) : ∃ g cap, v = .slice (some ⟨g, 0, none⟩) n cap ∧ n ≤ cap ∧ Src w (some ⟨g, 0, none⟩) xs := by
  obtain ⟨a, c, rfl, hs, _⟩ := own_src h
  obtain ⟨hl, ⟨hv, h0⟩ | ⟨g, cap, cur, hv, hb, hg, hc1, hc2, hsz, ht⟩⟩ := h
  · omega
  · cases hv
    exact ⟨g, c, rfl, hc1, hs⟩
/-- Bytes that were just laid. -/
theorem own_new {w : World} {base t : Nat} {zs : List Nat} {cs : Array Value} {n : Nat} (hb : base ≤ w.heap.size) (hc : cs.toList = cellsB zs) (hn : zs.length = n) (hm : n ≤ 65536) (ht : t = 5) : (w.alloc (.cells cs t)).ownsRow base 5 1 (.slice (some ⟨w.heap.size, 0, none⟩) n n) n (cellsB zs) := by
  subst ht
  have hsz : cs.size = n := by rw [← Array.length_toList, hc, cellsB_length, hn]
  refine ⟨by rw [cellsB_length, hn]; omega, .inr ⟨w.heap.size, n, cs, rfl, hb, heap_alloc_new _ _, Nat.le_refl _, by unfold maxLen; omega, by rw [hsz]; omega, ?_⟩⟩
  rw [hc, List.take_of_length_le (by rw [cellsB_length, hn]; omega)]
set_option maxHeartbeats 1000000 in
theorem numberBytes (x : Nat) (w : World) (hx : x < 4294967296) :
    Calls Tryz.prog 182 #[.int .i64 (x : Int)] w fun e w' => e = .returned (.slice (some ⟨w.heap.size, 0, none⟩) 4 4) ∧ w'.ownsRow w.heap.size 5 1 (.slice (some ⟨w.heap.size, 0, none⟩) 4 4) 4 (cellsB (numQ x)) ∧ Below w.heap.size w w' := by
  have HX : Hid (x < 4294967296) := hx
  go_enter Tryz.func182, Tryz.ntmps182
  go_wp2_with fail
  go_ret
  refine ⟨rfl, own_new (Nat.le_refl _) ?_ rfl (by omega) rfl, (Below.refl _ _).alloc (Nat.le_refl _) _⟩
  simp [cellsB, numQ]
  first | done | omega
set_option maxHeartbeats 1000000 in
theorem implSealed (b o n c : Nat) (L : List Nat) (w : World) (hL : L.length = n) (hn : n ≤ 65536) (hc : n ≤ c) (hlt : ∀ x ∈ L, x < 256) (h : Src w (some ⟨b, o, none⟩) (cellsB L)) (hH : HasHalf w) :
    Calls Tryz.prog 172 #[.slice (some ⟨b, o, none⟩) n c] w fun e w' => ∃ v', e = .returned v' ∧ w'.ownsRow w.heap.size 5 1 v' (n + 4) (cellsB (sealB L)) ∧ Below w.heap.size w w' := by
  obtain ⟨s, hs9⟩ : ∃ s, sumL L = s := ⟨_, rfl⟩
  have HC : Hid (Calls Tryz.prog 183 #[.slice (some ⟨b, o, none⟩) n c] w.drew fun e w' => e = .returned (.int .i64 ((s : Nat) : Int)) ∧ w.drew = w') := by rw [← hs9]; exact check32L _ n c L w.drew hL (by omega) hlt h hH
  have HSL : Hid (s < 4294967296 ∧ sealB L = L ++ numQ s) := ⟨by rw [← hs9]; exact sumL_lt L, by unfold sealB; rw [hs9]⟩
  have HR : Hid (Src w.drew (some ⟨b, o, none⟩) (cellsB L)) := h
  have hnc : (n : Int) ≤ (c : Int) := by omega
  clear h hs9 hlt hH
  go_enter Tryz.func172, Tryz.ntmps172
  go_wp2_with fail
  refine wp_region_any (by kernel_rfl) ?_
  change wpAny _ _ _ _ _ _ _ (World.drew _)
  refine reg_take 0 3 (.slice (some ⟨b, o, none⟩) n c) rfl rfl (by kernel_rfl) (by kernel_rfl) (by kernel_rfl) (fun _ _ _ _ _ h => h) (by kernel_rfl) (by intro w; go_simp) ?_
  refine reg_take 1 4 (.slice (some ⟨b, o, none⟩) n c) rfl rfl (by kernel_rfl) (by kernel_rfl) (by kernel_rfl) (fun _ _ _ _ _ h => h) (by kernel_rfl) (by intro w; go_simp) ?_
  refine reg_take 2 5 (.int .i64 (n : Int)) rfl rfl (by kernel_rfl) (by kernel_rfl) (by kernel_rfl) (fun _ _ _ _ _ h => h) (by kernel_rfl) (by intro w; go_simp) ?_
  refine reg_take 3 6 (.slice (some ⟨b, o, none⟩) n c) rfl rfl (by kernel_rfl) (by kernel_rfl) (by kernel_rfl) (fun _ _ _ _ _ h => h) (by kernel_rfl) (by intro w; go_simp) ?_
  refine reg_take 4 7 (.int .i64 (n : Int)) rfl rfl (by kernel_rfl) (by kernel_rfl) (by kernel_rfl) (fun _ _ _ _ _ h => h) (by kernel_rfl) (by intro w; go_simp) ?_
  refine reg_take 5 8 (.slice (some ⟨b, o, none⟩) n n) rfl rfl (by kernel_rfl) (by kernel_rfl) (by kernel_rfl) (fun _ _ _ _ _ h => h) (by kernel_rfl) (by intro w; go_simp) ?_
  refine reg_take 6 9 (.slice (some ⟨b, o, none⟩) n c) rfl rfl (by kernel_rfl) (by kernel_rfl) (by kernel_rfl) (fun _ _ _ _ _ h => h) (by kernel_rfl) (by intro w; go_simp) ?_
  refine wpAny_ready (rs := [7]) (by kernel_rfl) (by simp) ?_
  refine AllReady.cons rfl (fun K hK => ?_) AllReady.nil
  go_simp
  go_wp2_with (go_at_call 183; refine HC.out.mono ?_; rintro e w1 ⟨rfl, hw1⟩; obtain rfl := hw1.symm)
  refine wpAny_ready (rs := [8]) (by kernel_rfl) (by simp) ?_
  refine AllReady.cons rfl (fun K hK => ?_) AllReady.nil
  go_simp
  go_wp2_with (go_at_call 182; refine (numberBytes s _ HSL.out.1).mono ?_; rintro e w2 ⟨rfl, o2, hb2⟩)
  obtain ⟨i5, hi5, hz5⟩ := Option.map_eq_some_iff.1 infoB
  simp only [Prod.mk.injEq] at hz5
  have O2 : Hid (Src w2 (some ⟨w.heap.size, 0, none⟩) (cellsB (numQ s))) := by
    obtain ⟨a9, c9, e9, s9, _⟩ := own_src o2
    cases e9; exact s9
  have B2 : Hid (Below w.heap.size w w2) := (Below.refl w.heap.size w).drew.trans hb2
  have Z2 : Hid (w.heap.size ≤ w2.heap.size) := hb2.size
  have HR2 : Hid (Src w2 (some ⟨b, o, none⟩) (cellsB L)) := HR.out.below hb2
  clear o2 hb2
  refine wpAny_ready (rs := [9]) (by kernel_rfl) (by simp) ?_
  refine AllReady.cons rfl (fun K hK => ?_) AllReady.nil
  refine step_append_grows rfl (.tmp 8) (.tmp 11) 74 rfl 5 i5 (.int .u8 0) 1 1 Tryz.underlying74 hi5 hz5.1 hz5.2.1 hz5.2.2 rfl (by decide) (some ⟨b, o, none⟩) n n (cellsB L) rfl (fun e => by cases e) (by rw [cellsB_length, hL]; omega) (fun b9 e9 => by cases e9; exact Src.news HR2.out) ⟨w.heap.size, 0, none⟩ 4 4 (cellsB (numQ s)) rfl rfl (Src.news O2.out) (cellsB_one _) (by omega) (by unfold maxLen; omega) (by omega) ?_
  intro v3 w3 hown3 hgrow3
  have O3 : Hid (w3.ownsRow w.heap.size 5 1 v3 (n + 4) (cellsB (sealB L))) := by rw [HSL.out.2, cellsB_append]; exact own_mono hown3 Z2.out
  have B3 : Hid (Below w.heap.size w w3) := B2.out.grown hgrow3 Z2.out (fun k e => by cases e)
  clear hown3 hgrow3
  refine hK _ _ ?_
  clear hK K
  refine reg_take 10 2 v3 rfl rfl (by kernel_rfl) (by kernel_rfl) (by kernel_rfl) (fun _ _ _ _ _ h => h) (by kernel_rfl) (by intro w; go_simp) ?_
  refine wpAny_done (by kernel_rfl) ?_ _
  go_wp2_with fail
  go_ret
  exact ⟨_, rfl, O3.out, B3.out⟩
end Go.Proofs.YtnnimocaanofjaaGreatDoor

/-
  Contracts of the helpers on slices of snapshots: sizes, copies, comparisons, marks. By an AI agent.
-/
namespace Go.Proofs.YtnnimocaanofjaaGreatDoor
open Go.ChangeShapes Go.WideShapes Go.ChangeAt Go.RowKit Go.Deep
set_option linter.unusedVariables false

abbrev SN := ByteArray × Int × Int
abbrev sn0 : SN := (⟨#[]⟩, 0, 0)
def cellsSn (L : List SN) : List Value := L.flatMap fun p => [.string p.1, .int .i64 p.2.1, .int .i64 p.2.2]
theorem cellsSn_length (L : List SN) : (cellsSn L).length = L.length * 3 := by
  induction L with
  | nil => rfl
  | cons p L ih => simp [cellsSn] at ih ⊢; omega
theorem cellsSn_append (L M : List SN) : cellsSn (L ++ M) = cellsSn L ++ cellsSn M := by simp [cellsSn]
theorem cellsSn_get : ∀ (L : List SN) (i : Nat), i < L.length → (cellsSn L)[i * 3]? = some (.string (L.getD i sn0).1) ∧ (cellsSn L)[i * 3 + 1]? = some (.int .i64 (L.getD i sn0).2.1) ∧ (cellsSn L)[i * 3 + 2]? = some (.int .i64 (L.getD i sn0).2.2)
  | [], i, h => absurd h (by simp)
  | p :: L, 0, _ => ⟨rfl, rfl, rfl⟩
  | p :: L, i + 1, h => by
    have ih := cellsSn_get L i (by simpa using h)
    have e1 : (i + 1) * 3 = i * 3 + 1 + 1 + 1 := by omega
    have e2 : cellsSn (p :: L) = .string p.1 :: .int .i64 p.2.1 :: .int .i64 p.2.2 :: cellsSn L := rfl
    rw [e2, e1]
    exact ih
theorem cellsSn_one (L : List SN) : ∀ u ∈ cellsSn L, u.oneCell' = true := by
  intro u hu
  simp only [cellsSn, List.mem_flatMap] at hu
  obtain ⟨p, _, hp⟩ := hu
  simp at hp
  rcases hp with rfl | rfl | rfl <;> rfl
theorem srcSn {w : World} {a : Option Addr} {L : List SN} (h : Src w a (cellsSn L)) {i : Nat} (hi : i < L.length) : ∃ b o x y z, a = some ⟨b, o, none⟩ ∧ w.cell? ⟨b, o + i * 3, none⟩ = some (.string x) ∧ w.cell? ⟨b, o + i * 3 + 1, none⟩ = some (.int .i64 y) ∧ w.cell? ⟨b, o + i * 3 + 2, none⟩ = some (.int .i64 z) ∧ Hid (L.getD i sn0 = (x, y, z)) := by
  rcases h with h | ⟨b, o, rfl, hc⟩
  · have h2 := cellsSn_length L
    rw [h] at h2
    simp only [List.length_nil] at h2
    omega
  · have h1 := hc (i * 3) (by rw [cellsSn_length]; omega)
    have h2 := hc (i * 3 + 1) (by rw [cellsSn_length]; omega)
    have h3 := hc (i * 3 + 2) (by rw [cellsSn_length]; omega)
    rw [getD_some (cellsSn_get L i hi).1] at h1
    rw [getD_some (cellsSn_get L i hi).2.1] at h2
    rw [getD_some (cellsSn_get L i hi).2.2] at h3
    exact ⟨b, o, _, _, _, rfl, h1, h2, h3, rfl⟩
theorem infoSn : (Tryz.prog.info? 122).map (fun i => (i.zero, i.size, i.bytes)) = some (some (.agg #[.string ⟨#[]⟩, .int .i64 0, .int .i64 0]), 3, 32) := by kernel_rfl
theorem run_make_Sn (n : Nat) (hn : n ≤ 1048576) (w : World) : (Instr.makeSlice 40 (.int .i64 (n : Int)) (.int .i64 (n : Int))).run Tryz.prog w = .ok (.slice (some ⟨w.heap.size, 0, none⟩) n n) (w.alloc (.cells (madeCells #[.string ⟨#[]⟩, .int .i64 0, .int .i64 0] (n * 3)) 122)) :=
  run_make_rows 40 122 (.agg #[.string ⟨#[]⟩, .int .i64 0, .int .i64 0]) 3 32 n Tryz.underlying40 infoSn (by omega) hn w
set_option maxHeartbeats 400000 in
theorem toSnap (x : ByteArray) (y z : Int) (w : World) : Calls Tryz.prog 125 #[.agg #[.string x, .int .i64 y, .int .i64 z]] w fun e w' => e = .returned (.agg #[.string x, .int .i64 y, .int .i64 z]) ∧ Below w.heap.size w w' := by
  go_enter Tryz.func125, Tryz.ntmps125
  go_wp2
  exact bodyPost_ret (v := .agg #[.string x, .int .i64 y, .int .i64 z]) (by simp [results, Tryz.results125, go_sem]) rfl ⟨rfl, (((Below.refl _ _).alloc (Nat.le_refl _) _).alloc (by simp) _).alloc (by simp; omega) _⟩

set_option maxHeartbeats 400000 in
theorem szSnap (x : ByteArray) (y z : Int) (l : Int) (w : World) (hx : x.size ≤ maxLen) (h0 : 0 ≤ l) (h1 : l ≤ 1048576) : Calls Tryz.prog 117 #[.agg #[.string x, .int .i64 y, .int .i64 z], .int .i64 l] w fun e w' => ∃ r : Int, e = .returned (.int .i64 r) ∧ r ≤ l ∧ (0 ≤ r → r = l - x.size) ∧ Below w.heap.size w w' := by
  unfold maxLen at hx
  go_enter Tryz.func117, Tryz.ntmps117
  go_wp2
  all_goals
    go_ret
    refine ⟨_, rfl, ?_, ?_, (Below.refl _ _).alloc (Nat.le_refl _) _⟩
    all_goals omega

set_option maxHeartbeats 400000 in
theorem eqSnap (x : ByteArray) (y z : Int) (w : World) : Calls Tryz.prog 130 #[.agg #[.string x, .int .i64 y, .int .i64 z], .agg #[.string x, .int .i64 y, .int .i64 z]] w fun e w' => e = .returned (.bool true) ∧ Below w.heap.size w w' := by
  have hy : (y != y) = false := by simp
  have hz : (z != z) = false := by simp
  go_enter Tryz.func130, Tryz.ntmps130
  go_wp2
  go_ret
  exact ⟨rfl, ((Below.refl _ _).alloc (Nat.le_refl _) _).alloc (by simp) _⟩

set_option maxHeartbeats 400000 in
theorem toSnapS (a : Option Addr) (n c : Nat) (L : List SN) (w : World) (hL : L.length = n) (hn : n ≤ 1048576) (h : Src w a (cellsSn L)) :
    Calls Tryz.prog 88 #[.slice a n c] w fun e w' => ∃ v, e = .returned v ∧ w'.ownsRow w.heap.size 122 3 v n (cellsSn L) ∧ Below w.heap.size w w' := by
  have hmk := run_make_Sn n hn
  have HH : Hid (Src w a (cellsSn L)) := h
  have HL : Hid ((cellsSn L).length = n * 3) := by show (cellsSn L).length = n * 3; rw [cellsSn_length, hL]
  have HL2 : Hid (L.length = n) := hL
  clear h hL
  go_enter Tryz.func88, Tryz.ntmps88
  go_wp2_with fail
  clear hmk
  obtain ⟨zs, hz, ho⟩ := rows_made w #[.string ⟨#[]⟩, .int .i64 0, .int .i64 0] n 3 122 rfl (by omega) (by unfold maxLen; omega)
  have HZ : Hid (zs.length = n * 3) := hz
  have HO : Hid (World.ownsRow (w.alloc (.cells (madeCells #[.string ⟨#[]⟩, .int .i64 0, .int .i64 0] (n * 3)) 122)) w.heap.size 122 3 (.slice (some ⟨w.heap.size, 0, none⟩) n n) n zs) := ho
  clear hz ho
  go_loopw [4] (fun i wr => ∃ k : Nat, k ≤ n ∧ i = .int .i64 k ∧ Hid (Below w.heap.size w wr) ∧ Hid (wr.ownsRow w.heap.size 122 3 (.slice (some ⟨w.heap.size, 0, none⟩) n n) n ((cellsSn L).take (k * 3) ++ zs.drop (k * 3)))) (fun i _ => n - (intOf i).toNat)
  case atStart => exact ⟨0, by omega, rfl, (Below.refl _ _).alloc (Nat.le_refl _) _, by simpa [Hid] using HO.out⟩
  case round =>
    obtain ⟨k, hk, rfl, hb, ho⟩ := hrel
    by_cases hlt : k < n
    · have hkL : k < L.length := by rw [HL2.out]; exact hlt
      obtain ⟨b, o, x, y, z, rfl, hc1, hc2, hc3, hy⟩ := srcSn (HH.out.below hb.out) hkL
      have HK : Hid (k < L.length) := hkL
      clear hkL
      go_wp2_with fail
      refine (toSnap x y z _).mono ?_
      rintro e w1 ⟨rfl, hb1⟩
      have HB : Hid (Below w.heap.size w w1) := hb.out.trans (hb1.mono hb.out.size)
      have HO1 : Hid (w1.ownsRow w.heap.size 122 3 (.slice (some ⟨w.heap.size, 0, none⟩) n n) n ((cellsSn L).take (k * 3) ++ zs.drop (k * 3))) := own_below ho.out hb1
      clear hb hb1 ho hc1 hc2 hc3
      have hl1 : Hid (((cellsSn L).take (k * 3) ++ zs.drop (k * 3)).length = n * 3) := by
        show _ = _; rw [fill_length _ _ _ (HZ.out.trans HL.out.symm), HL.out]
      obtain ⟨z1, o1, o2⟩ := own_cellX HO1.out (i := k * 3) (by rw [hl1.out]; omega)
      obtain ⟨z2, o3, o4⟩ := own_cellX HO1.out (i := k * 3 + 1) (by rw [hl1.out]; omega)
      obtain ⟨z3, o5, o6⟩ := own_cellX HO1.out (i := k * 3 + 2) (by rw [hl1.out]; omega)
      have o3' : (w1.setCell ⟨w.heap.size, k * 3, none⟩ (.string x)).cell? ⟨w.heap.size, k * 3 + 1, none⟩ = some z2 := by
        rw [World.cell?_setCell_other _ _ _ _ (offs_ne (by omega))]; exact o3
      have o5' : ((w1.setCell ⟨w.heap.size, k * 3, none⟩ (.string x)).setCell ⟨w.heap.size, k * 3 + 1, none⟩ (.int .i64 y)).cell? ⟨w.heap.size, k * 3 + 2, none⟩ = some z3 := by
        rw [World.cell?_setCell_other _ _ _ _ (offs_ne (by omega)), World.cell?_setCell_other _ _ _ _ (offs_ne (by omega))]; exact o5
      go_wp2_with fail
      refine ⟨⟨k + 1, by omega, by go_num, ((HB.out.setCell (Nat.le_refl _) _).setCell (Nat.le_refl _) _).setCell (Nat.le_refl _) _, ?_⟩, by simp [intOf]; omega⟩
      have e1 := fill_set (cellsSn L) zs (k * 3) (.string x) (by rw [HZ.out]; omega) (by rw [(cellsSn_get L k HK.out).1, hy.out])
      have e2 := fill_set (cellsSn L) zs (k * 3 + 1) (.int .i64 y) (by rw [HZ.out]; omega) (by rw [(cellsSn_get L k HK.out).2.1, hy.out])
      have e3 := fill_set (cellsSn L) zs (k * 3 + 2) (.int .i64 z) (by rw [HZ.out]; omega) (by rw [(cellsSn_get L k HK.out).2.2, hy.out])
      have s1 := own_set HO1.out (k * 3) (by rw [hl1.out]; omega) (.string x)
      rw [e1] at s1
      have s2 := own_set s1 (k * 3 + 1) (by rw [fill_length _ _ _ (HZ.out.trans HL.out.symm), HL.out]; omega) (.int .i64 y)
      rw [e2] at s2
      have s3 := own_set s2 (k * 3 + 2) (by rw [fill_length _ _ _ (HZ.out.trans HL.out.symm), HL.out]; omega) (.int .i64 z)
      rw [e3] at s3
      rw [show (k + 1) * 3 = k * 3 + 2 + 1 from by omega]
      exact s3
    · have hkn : k = n := by omega
      have HF : Hid (wr.ownsRow w.heap.size 122 3 (.slice (some ⟨w.heap.size, 0, none⟩) n n) n (cellsSn L)) := own_congr ho.out (by rw [hkn]; exact fill_all HL.out HZ.out)
      clear hkn
      go_wp2_with fail
      go_ret
      exact ⟨_, rfl, HF.out, hb.out⟩

set_option maxHeartbeats 400000 in
theorem szSnapS (a : Option Addr) (n c : Nat) (L : List SN) (l : Int) (w : World) (hL : L.length = n) (hn : n ≤ maxLen) (hs : ∀ x ∈ L, x.1.size ≤ maxLen) (h0 : 0 ≤ l) (h1 : l ≤ 1048576) (h : Src w a (cellsSn L)) :
    Calls Tryz.prog 75 #[.slice a n c, .int .i64 l] w fun e w' => ∃ r : Int, e = .returned (.int .i64 r) ∧ r ≤ l ∧ (0 ≤ r → r + n ≤ l ∧ n ≤ 1048576 ∧ ∀ x ∈ L, x.1.size ≤ 1048576) ∧ Below w.heap.size w w' := by
  unfold maxLen at hn
  by_cases hbig : l < n
  · clear h hs hL
    go_enter Tryz.func75, Tryz.ntmps75
    go_wp2_with fail
    go_ret
    exact ⟨-1, rfl, by omega, fun h => absurd h (by omega), Below.refl _ _⟩
  have HS : Hid (∀ i, i < n → (L.getD i sn0).1.size ≤ maxLen) := fun i hi => hs _ (by
    rw [List.getD_eq_getElem?_getD, List.getElem?_eq_getElem (by omega)]; exact List.getElem_mem _)
  have HH : Hid (Src w a (cellsSn L)) := h
  have HL : Hid (L.length = n) := hL
  clear hs h hL
  go_enter Tryz.func75, Tryz.ntmps75
  go_wp2_with fail
  go_loopw [1, 5] (fun v i wr => ∃ (k : Nat) (x : Int), k ≤ n ∧ i = .int .i64 k ∧ v = .int .i64 x ∧ 0 ≤ x ∧ x + n ≤ l ∧ Hid (∀ i, i < k → (L.getD i sn0).1.size ≤ 1048576) ∧ Hid (Below w.heap.size w wr)) (fun _ i _ => n - (intOf i).toNat)
  case atStart => exact ⟨0, _, by omega, rfl, rfl, by omega, by omega, fun i hi => absurd hi (by omega), Below.refl _ _⟩
  case round =>
    obtain ⟨k, x, hk, rfl, rfl, hx0, hx1, hall, hb⟩ := hrel
    by_cases hlt : k < n
    · obtain ⟨b, o, p, y, z, rfl, hc1, hc2, hc3, hy⟩ := srcSn (HH.out.below hb.out) (i := k) (by rw [HL.out]; exact hlt)
      have hsz := HS.out k hlt
      rw [hy.out] at hsz
      have HSZ : Hid (p.size ≤ maxLen) := hsz
      clear hsz
      go_wp2_with fail
      refine (szSnap p y z x _ HSZ.out hx0 (by omega)).mono ?_
      rintro e w1 ⟨r, rfl, hr1, hr2, hb1⟩
      have HB1 : Hid (Below w.heap.size w w1) := hb.out.trans (hb1.mono hb.out.size)
      clear hb1
      by_cases hneg : r < 0
      · clear hr2
        go_wp2_with fail
        go_ret
        exact ⟨-1, rfl, by omega, fun h => absurd h (by omega), HB1.out⟩
      · have hr3 := hr2 (by omega)
        have hall2 : Hid (∀ i, i < k + 1 → (L.getD i sn0).1.size ≤ 1048576) := fun i hi => by
          by_cases e : i = k
          · rw [e, hy.out]; show p.size ≤ 1048576; omega
          · exact hall.out i (by omega)
        clear hr2 hr3
        go_wp2_with fail
        exact ⟨⟨k + 1, _, by omega, by go_num, rfl, by omega, by omega, hall2, HB1.out⟩, by simp [intOf]; omega⟩
    · have hkn : k = n := by omega
      have hall' : Hid (∀ x ∈ L, x.1.size ≤ 1048576) := fun y hy => by
        obtain ⟨i, hi, rfl⟩ := List.getElem_of_mem hy
        have := hall.out i (by rw [hkn, ← HL.out]; exact hi)
        rw [List.getD_eq_getElem?_getD, List.getElem?_eq_getElem hi] at this
        exact this
      clear hkn
      go_wp2_with fail
      go_ret
      exact ⟨x, rfl, by omega, fun _ => ⟨hx1, by omega, hall'.out⟩, hb.out⟩

set_option maxHeartbeats 400000 in
theorem eqSnapS (a b : Option Addr) (n c d : Nat) (L : List SN) (w : World) (hL : L.length = n) (hn : n ≤ 9000000000000000000) (ha : Src w a (cellsSn L)) (hb : Src w b (cellsSn L)) :
    Calls Tryz.prog 93 #[.slice a n c, .slice b n d] w fun e w' => e = .returned (.bool true) ∧ Below w.heap.size w w' := by
  have hne : ((n : Int) != (n : Int)) = false := by simp
  have HA : Hid (Src w a (cellsSn L)) := ha
  have HB : Hid (Src w b (cellsSn L)) := hb
  have HL : Hid (L.length = n) := hL
  clear ha hb hL
  go_enter Tryz.func93, Tryz.ntmps93
  go_wp2_with fail
  go_loopw [5] (fun i wr => ∃ k : Nat, k ≤ n ∧ i = .int .i64 k ∧ Hid (Below w.heap.size w wr)) (fun i _ => n - (intOf i).toNat)
  case atStart => exact ⟨0, by omega, rfl, Below.refl _ _⟩
  case round =>
    obtain ⟨k, hk, rfl, hB⟩ := hrel
    by_cases hlt : k < n
    · obtain ⟨b1, o1, x, y, z, rfl, p1, p2, p5, hy1⟩ := srcSn (HA.out.below hB.out) (i := k) (by rw [HL.out]; exact hlt)
      obtain ⟨b2, o2, x', y', z', rfl, p3, p4, p6, hy2⟩ := srcSn (HB.out.below hB.out) (i := k) (by rw [HL.out]; exact hlt)
      obtain ⟨rfl, rfl, rfl⟩ : x = x' ∧ y = y' ∧ z = z' := by have := hy1.out.symm.trans hy2.out; simpa using this
      have hk0 : (0 : Int) ≤ (k : Int) := by omega
      have hki : (k : Int) < (n : Int) := by omega
      go_wp2_with fail
      go_region_with (go_at_call 130; refine (eqSnap _ _ _ _).mono ?_; rintro e w1 ⟨rfl, hb1⟩)
      all_goals go_wp2_with fail
      all_goals exact ⟨⟨k + 1, by omega, by go_num, hB.out.drew.trans (hb1.mono hB.out.size)⟩, by simp [intOf]; omega⟩
    · go_wp2_with fail
      go_ret
      exact ⟨rfl, hB.out⟩

end Go.Proofs.YtnnimocaanofjaaGreatDoor

