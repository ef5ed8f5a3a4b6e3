
/-
  Bytes with their sum behind them: the program's sealed and the specification's l03Sealed. By an AI agent.
-/
import Derived.Test.YtmbndpgoihdpnaaDoorImplSum
import Derived.Test.YtmbndpgoihdpnaaDoorNum4
import Derived.Deep.RegionLawGrows
namespace Go.Proofs.YtmbndpgoihdpnaaDoor
open Go.ChangeShapes Go.WideShapes Go.ChangeAt Go.RowKit Go.Deep
set_option linter.unusedVariables false
set_option maxRecDepth 100000

abbrev zL (L : List Nat) : Nat → Nat := fun i => L.getD i 0
def sumL (L : List Nat) : Nat := crc (zL L) L.length
def sealB (L : List Nat) : List Nat := L ++ numQ (sumL L)
theorem sumL_lt (L : List Nat) : sumL L < 4294967296 := by
  unfold sumL crc
  split
  · omega
  · exact Nat.xor_lt_two_pow (n := 32) (crcTo_lt _ _) (by omega)
theorem zL_lt {L : List Nat} (h : ∀ x ∈ L, x < 256) : ∀ i, zL L i < 256 := fun i => by
  by_cases hi : i < L.length
  · show L.getD i 0 < 256
    rw [List.getD_eq_getElem?_getD, List.getElem?_eq_getElem hi]; exact h _ (List.getElem_mem _)
  · show L.getD i 0 < 256
    rw [List.getD_eq_getElem?_getD, List.getElem?_eq_none (by omega)]; decide
theorem sl_src {w : World} {a : Option Addr} {L : List Nat} {n : Nat} (h : Src w a (cellsB L)) (hn : L.length = n) : Sl w a n (BV (zL L)) := by
  subst hn
  rcases h with h | ⟨b, o, rfl, hc⟩
  · have h2 := cellsB_length L
    rw [h] at h2
    exact .inl (by simpa using h2.symm)
  · refine .inr ⟨b, o, rfl, fun i hi => ?_⟩
    have h1 := hc i (by rw [cellsB_length]; exact hi)
    rw [getD_some (cellsB_get L i hi)] at h1
    exact h1
theorem l01CheckL (a : Option Addr) (n c : Nat) (L : List Nat) (w : World) (hL : L.length = n) (hn : n ≤ 65536) (hlt : ∀ x ∈ L, x < 256) (h : Src w a (cellsB L)) :
    Calls Tryd.prog 84 #[.slice a n c] w fun e w' => e = .returned (.int .i64 ((sumL L : Nat) : Int)) ∧ Below w.heap.size w w' := by
  have h1 := l01Check a n c (zL L) w (by omega) (zL_lt hlt) (sl_src h hL)
  have e1 : sumL L = crcTo (zL L) n ^^^ 4294967295 := by unfold sumL crc; rw [hL, if_neg (by omega)]
  rw [← e1] at h1
  exact h1
theorem check32L (a : Option Addr) (n c : Nat) (L : List Nat) (w : World) (hL : L.length = n) (hn : n ≤ 1048576) (hlt : ∀ x ∈ L, x < 256) (h : Src w a (cellsB L)) (hH : HasHalf w) :
    Calls Tryd.prog 75 #[.slice a n c] w fun e w' => e = .returned (.int .i64 ((sumL L : Nat) : Int)) ∧ w = w' := by
  have h1 := implCheck32 a n c (zL L) w hn (zL_lt hlt) (sl_src h hL) hH
  have e1 : sumL L = crc (zL L) n := by unfold sumL; rw [hL]
  rw [← e1] at h1
  exact h1

/-- What a row of one's own that is not empty is as a slice. -/
theorem own_some {w : World} {base e s n : Nat} {v : Value} {xs : List Value} (h : w.ownsRow base e s v n xs) (hn : 0 < n) : ∃ g cap, v = .slice (some ⟨g, 0, none⟩) n cap ∧ n ≤ cap ∧ Src w (some ⟨g, 0, none⟩) xs := by
  obtain ⟨a, c, rfl, hs, _⟩ := own_src h
  obtain ⟨hl, ⟨hv, h0⟩ | ⟨g, cap, cur, hv, hb, hg, hc1, hc2, hsz, ht⟩⟩ := h
  · omega
  · cases hv
    exact ⟨g, c, rfl, hc1, hs⟩
/-- Bytes that were just laid. -/
theorem own_new {w : World} {base t : Nat} {zs : List Nat} {cs : Array Value} {n : Nat} (hb : base ≤ w.heap.size) (hc : cs.toList = cellsB zs) (hn : zs.length = n) (hm : n ≤ 65536) (ht : t = 5) : (w.alloc (.cells cs t)).ownsRow base 5 1 (.slice (some ⟨w.heap.size, 0, none⟩) n n) n (cellsB zs) := by
  subst ht
  have hsz : cs.size = n := by rw [← Array.length_toList, hc, cellsB_length, hn]
  refine ⟨by rw [cellsB_length, hn]; omega, .inr ⟨w.heap.size, n, cs, rfl, hb, heap_alloc_new _ _, Nat.le_refl _, by unfold maxLen; omega, by rw [hsz]; omega, ?_⟩⟩
  rw [hc, List.take_of_length_le (by rw [cellsB_length, hn]; omega)]
set_option maxHeartbeats 1000000 in
theorem numberBytes (x : Nat) (w : World) (hx : x < 4294967296) :
    Calls Tryd.prog 46 #[.int .i64 (x : Int)] w fun e w' => e = .returned (.slice (some ⟨w.heap.size, 0, none⟩) 4 4) ∧ w'.ownsRow w.heap.size 5 1 (.slice (some ⟨w.heap.size, 0, none⟩) 4 4) 4 (cellsB (numQ x)) ∧ Below w.heap.size w w' := by
  have HX : Hid (x < 4294967296) := hx
  go_enter Tryd.func46, Tryd.ntmps46
  go_wp2_with fail
  go_ret
  refine ⟨rfl, own_new (Nat.le_refl _) ?_ rfl (by omega) rfl, (Below.refl _ _).alloc (Nat.le_refl _) _⟩
  simp [cellsB, numQ]
  first | done | omega
end Go.Proofs.YtmbndpgoihdpnaaDoor
