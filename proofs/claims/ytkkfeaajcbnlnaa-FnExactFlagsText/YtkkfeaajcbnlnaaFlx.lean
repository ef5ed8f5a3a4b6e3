
/-
  Texts that are joined, and the words of flags, of the program and of the specification. By an AI agent.
-/
import Derived.Test.YtkkfeaajcbnlnaaNames
import Derived.Test.YtkkfeaajcbnlnaaShelf
namespace Go.Proofs.Ytkkfeaajcbnlnaa
open Go.ChangeShapes Go.WideShapes Go.ChangeAt Go.RowKit Go.Deep
set_option linter.unusedVariables false
set_option maxRecDepth 100000

theorem ret_str {a b : ByteArray} (h : a = b) : Ending.returned (.string a) = .returned (.string b) := by rw [h]
def joinB (L : List ByteArray) (sep : ByteArray) : ByteArray := ⟨(Lib.join (L.map (·.data.toList)) sep.data.toList).toArray⟩
theorem ba_ext {a b : ByteArray} (h : a.data.toList = b.data.toList) : a = b := by
  cases a; cases b; simpa using h
theorem joinB_one (x sep : ByteArray) : joinB [x] sep = x := ba_ext (by simp [joinB, Lib.join_one])
theorem join_snoc (xs : List (List UInt8)) (y sep : List UInt8) (h : xs ≠ []) : Lib.join (xs ++ [y]) sep = (Lib.join xs sep ++ sep) ++ y := by
  match xs, h with
  | x :: r, _ => rw [List.cons_append, Lib.join_cons, Lib.join_cons]; simp [Lib.joinTail]
theorem joinB_snoc (L : List ByteArray) (y sep : ByteArray) (h : L ≠ []) : joinB (L ++ [y]) sep = (joinB L sep ++ sep) ++ y := by
  refine ba_ext ?_
  have h1 : L.map (·.data.toList) ≠ [] := by simpa using h
  simp only [joinB, List.map_append, List.map_cons, List.map_nil, join_snoc _ _ _ h1, ByteArray.data_append, Array.toList_append]
theorem take_snoc (L : List ByteArray) (k : Nat) (h : k < L.length) : L.take (k + 1) = L.take k ++ [L.getD k e0] := by
  rw [List.take_add_one, List.getElem?_eq_getElem h, List.getD_eq_getElem?_getD, List.getElem?_eq_getElem h]
  rfl
set_option maxHeartbeats 1000000 in
theorem l00JoinS (a : Option Addr) (n c : Nat) (L : List ByteArray) (sep : ByteArray) (w : World) (hL : L.length = n) (hn : n ≤ 1048576) (hz : ∀ k ≤ n, (joinB (L.take k) sep).size ≤ 1048576) (hs : ∀ s ∈ L, s.size ≤ 1048576) (hsp : sep.size ≤ 1048576) (h : Src w a (cellsS L)) :
    Calls Try.prog 24 #[.slice a n c, .string sep] w fun e w' => e = .returned (.string (joinB L sep)) ∧ Below w.heap.size w w' := by
  have HH : Hid (Src w a (cellsS L)) := h
  have HL : Hid (L.length = n) := hL
  have HZ : Hid (∀ k ≤ n, (joinB (L.take k) sep).size ≤ 1048576) := hz
  have HS : Hid (∀ s ∈ L, s.size ≤ 1048576) := hs
  clear h hL hz hs
  go_enter Try.func24, Try.ntmps24
  go_wp2_with fail
  go_loopw [5, 6] (fun t i wr => ∃ (k : Nat) (x : ByteArray), k ≤ n ∧ t = .string x ∧ i = .int .i64 k ∧ x.size ≤ 1048576 ∧ Hid (x = joinB (L.take k) sep) ∧ Hid (Below w.heap.size w wr)) (fun _ i _ => n - (intOf i).toNat)
  case atStart => exact ⟨0, ⟨#[]⟩, by omega, rfl, rfl, by show 0 ≤ _; omega, rfl, Below.refl _ _⟩
  case round =>
    obtain ⟨k, x, hk, rfl, rfl, hx, hxe, hbr⟩ := hrel
    by_cases hlt : k < n
    · have hkL : k < L.length := by rw [HL.out]; exact hlt
      obtain ⟨b, o, s, rfl, hc, hy⟩ := srcS (HH.out.below hbr.out) hkL
      have hss : s.size ≤ 1048576 := by
        rw [← hy.out, List.getD_eq_getElem?_getD, List.getElem?_eq_getElem hkL]; exact HS.out _ (List.getElem_mem _)
      have HZ1 := HZ.out (k + 1) (by omega)
      have TS := take_snoc L k hkL
      rw [hy.out] at TS
      rw [TS] at HZ1
      by_cases h0 : k = 0
      · have hx0 : x = ⟨#[]⟩ := by rw [hxe.out, h0]; rfl
        have HN : Hid (x ++ s = joinB (L.take (k + 1)) sep) := by
          show _ = _
          rw [TS, h0, List.take_zero, List.nil_append, joinB_one, hx0]
          exact ba_ext (by simp)
        have HQ : Hid ((x ++ s).size ≤ 1048576) := by show _ ≤ _; rw [HN.out, TS]; exact HZ1
        have hk0 : ¬ (0 < k) := by omega
        have hk1 : ¬ ((0 : Int) < (k : Int)) := by omega
        clear HZ1 TS hkL hx0 h0
        go_wp2_with fail
        exact ⟨⟨k + 1, _, by omega, rfl, by go_num, HQ.out, HN.out, hbr.out⟩, by simp [intOf]; omega⟩
      · have hne : L.take k ≠ [] := by
          intro h9
          have h8 : (L.take k).length = 0 := by rw [h9]; rfl
          rw [List.length_take] at h8; omega
        have HN : Hid ((x ++ sep) ++ s = joinB (L.take (k + 1)) sep) := by
          show _ = _
          rw [TS, joinB_snoc _ _ _ hne, hxe.out]
        have HQ : Hid (((x ++ sep) ++ s).size ≤ 1048576) := by show _ ≤ _; rw [HN.out, TS]; exact HZ1
        have hk0 : 0 < k := by omega
        have hk1 : (0 : Int) < (k : Int) := by omega
        clear HZ1 TS hkL h0
        go_wp2_with fail
        exact ⟨⟨k + 1, _, by omega, rfl, by go_num, HQ.out, HN.out, hbr.out⟩, by simp [intOf]; omega⟩
    · have hkn : k = n := by omega
      have hxL : Hid (x = joinB L sep) := by show _ = _; rw [hxe.out, hkn, ← HL.out, List.take_of_length_le (Nat.le_refl _)]
      clear hkn hxe
      go_wp2_with fail
      go_ret
      exact ⟨ret_str hxL.out, hbr.out⟩
theorem own_capy {w : World} {base e s n c : Nat} {a : Option Addr} {xs : List Value} (h : w.ownsRow base e s (.slice a n c) n xs) : n ≤ c ∧ c ≤ maxLen := by
  obtain ⟨hl, ⟨hv, h0⟩ | ⟨g, cap, cur, hv, hb, hg, hc1, hc2, hsz, ht⟩⟩ := h
  · cases hv
    exact ⟨Nat.le_refl _, by unfold maxLen; omega⟩
  · cases hv
    exact ⟨hc1, hc2⟩
theorem joinOwn (base n : Nat) (v : Value) (L : List ByteArray) (sep : ByteArray) (w : World) (hn : n ≤ 1048576) (hz : (joinB L sep).size ≤ 1048576) (h : w.ownsRow base 9 1 v n (cellsS L)) :
    Calls Try.prog 21 #[v, .string sep] w fun e w' => e = .returned (.string (joinB L sep)) ∧ Below w.heap.size w w' := by
  obtain ⟨a, c, rfl, hsrc, hlt⟩ := own_src h
  have hlen : L.length = n := by have := h.1; rw [cellsS_length] at this; omega
  have hcap := (own_capy h).1
  match L, hlen with
  | [], hl =>
    have h0 : n = 0 := by simpa using hl.symm
    subst h0
    exact (Try.strings_Join_none a c sep w).mono fun e w' ⟨h1, h2⟩ => ⟨h1, by rw [h2]; exact Below.refl _ _⟩
  | x :: r, hl =>
    obtain ⟨b, o, s, rfl, hc, hy⟩ := srcS hsrc (i := 0) (by simp)
    have := Try.strings_Join b o c (x :: r) sep w (fun j y hj => by
      have hj2 : j < (x :: r).length := by
        rcases Nat.lt_or_ge j (x :: r).length with h9 | h9
        · exact h9
        · rw [List.getElem?_eq_none h9] at hj; cases hj
      obtain ⟨b2, o2, s2, he, hc2, hy2⟩ := srcS hsrc hj2
      cases he
      rw [hc2, ← hy2.out, List.getD_eq_getElem?_getD, hj]; rfl) (hlt _ rfl).2 (by rw [hl]; omega) (by rw [hl]; exact hcap) (by
        have : (joinB (x :: r) sep).size = (Lib.join ((x :: r).map (·.data.toList)) sep.data.toList).length := by simp [joinB, ByteArray.size]
        omega)
    rw [hl] at this
    exact this
def seenT : ByteArray := ⟨#[115, 101, 101, 110]⟩
def delT : ByteArray := ⟨#[100, 101, 108, 101, 116, 101, 100]⟩
def wordsF (f : Int) : List ByteArray := if f = 1 then [seenT] else if f = 2 then [delT] else if f = 3 then [seenT, delT] else []
def flagsA (f : Int) : ByteArray × Int := if 0 ≤ f ∧ f ≤ 3 then ((⟨#[40]⟩ ++ joinB (wordsF f) ⟨#[32]⟩) ++ ⟨#[41]⟩, 0) else (⟨#[]⟩, 4)
end Go.Proofs.Ytkkfeaajcbnlnaa
