
/-
  A field by its name, and FieldOf, of the program and of the specification. By an AI agent.
-/
import Derived.Test.YtgbhjhbmolgbeaaDoorPar6
import Derived.Test.YtgbhjhbmolgbeaaDoorSms
namespace Go.Proofs.YtgbhjhbmolgbeaaDoor
open Go.ChangeShapes Go.WideShapes Go.ChangeAt Go.RowKit Go.Deep
set_option linter.unusedVariables false
set_option maxRecDepth 100000

def lowL (x : ByteArray) : List UInt8 := x.data.toList.map lowB
def sameN (nm : ByteArray) (f : MFl) : Bool := lowL f.1 == lowL nm
def findF (L : List MFl) (nm : ByteArray) : Option MFl := L.find? (sameN nm)
theorem find_step (L : List MFl) (nm : ByteArray) (k : Nat) (h : k < L.length) : (L.drop k).find? (sameN nm) = if sameN nm (L.getD k fl0) then some (L.getD k fl0) else (L.drop (k + 1)).find? (sameN nm) := by
  rw [List.drop_eq_getElem_cons h, List.find?_cons, List.getD_eq_getElem?_getD, List.getElem?_eq_getElem h]
  simp only [Option.getD_some]
  cases sameN nm L[k] <;> rfl
theorem find_end (L : List MFl) (nm : ByteArray) (k : Nat) (h : L.length ≤ k) : (L.drop k).find? (sameN nm) = none := by
  rw [List.drop_of_length_le h]; rfl
theorem smallC (x : ByteArray) (w : World) (hx : x.size ≤ 100000) : Calls Tryd.prog 43 #[.string x] w fun e w' => e = .returned (.string (bsOf (lowL x))) ∧ Below w.heap.size w w' := by
  have h9 := smallI x.data.toList w (by simpa using hx)
  rwa [bsOf_data] at h9
theorem smallD (x : ByteArray) (w : World) (hx : x.size ≤ 100000) : Calls Tryd.prog 65 #[.string x] w fun e w' => e = .returned (.string (bsOf (lowL x))) ∧ Below w.heap.size w w' := by
  have h9 := l08SmallS x.data.toList w (by simpa using hx)
  rwa [bsOf_data] at h9
theorem sameN_toList (x nm : ByteArray) (y : ByteArray) : ((bsOf (lowL x)).toList == (bsOf (lowL nm)).toList) = sameN nm (x, y) := by
  rw [Lib.toList_data, Lib.toList_data, bsOf_list, bsOf_list]; rfl
/-- What was found, as the program tells it. -/
def fldV : Option MFl → Value
  | some f => .tuple #[.agg #[.string f.1, .string f.2], .bool true]
  | none => .tuple #[.agg #[.string ⟨#[]⟩, .string ⟨#[]⟩], .bool false]

set_option maxHeartbeats 1000000 in
theorem fieldI (a : Option Addr) (n c : Nat) (L : List MFl) (Y nm : ByteArray) (w : World) (hL : L.length = n) (hn : n ≤ 100000) (hs : ∀ x ∈ L, x.1.size ≤ 100000) (hnm : nm.size ≤ 100000) (h : Src w a (cellsFl L)) :
    Calls Tryd.prog 40 #[.agg #[.slice a n c, .string Y], .string nm] w fun e w' => e = .returned (fldV (findF L nm)) ∧ Below w.heap.size w w' := by
  obtain ⟨o, ho⟩ : ∃ o, findF L nm = o := ⟨_, rfl⟩
  rw [ho]
  obtain ⟨T, hT⟩ : ∃ T, bsOf (lowL nm) = T := ⟨_, rfl⟩
  have HC0 : ∀ w, Calls Tryd.prog 43 #[.string nm] w fun e w' => e = .returned (.string T) ∧ Below w.heap.size w w' := fun w => by rw [← hT]; exact smallC nm w hnm
  have HT : Hid (bsOf (lowL nm) = T) := hT
  have HO : Hid ((L.drop 0).find? (sameN nm) = o) := ho
  have HH : Hid (Src w a (cellsFl L)) := h
  have HL : Hid (L.length = n) := hL
  have HS : Hid (∀ x ∈ L, x.1.size ≤ 100000) := hs
  clear h hL hs ho hT hnm
  go_enter Tryd.func40, Tryd.ntmps40
  go_wp2_with (go_at_call 43; refine (HC0 _).mono ?_; rintro e w1 ⟨rfl, hb1⟩; have bx0 := ((Box.below ((Box.new (w := w) (vs := #[.slice a n c, .string Y]) (t := 25) rfl).old _) hb1) 0 _ rfl).1)
  have B1 : Hid (Below w.heap.size w w1) := (((Below.refl _ _).alloc (Nat.le_refl _) _).alloc (by simp) _).trans (hb1.mono (by simp; omega))
  have R1 : Hid (Box w1 (w.heap.size + 1) [.string ⟨#[]⟩, .string ⟨#[]⟩]) := Box.below (Box.new (by simp)) hb1
  clear hb1 bx0 HC0
  go_loopw [13] (fun i wr => ∃ k : Nat, k ≤ n ∧ i = .int .i64 (k : Int) ∧ Hid ((L.drop k).find? (sameN nm) = o) ∧ Hid (Below w.heap.size w wr) ∧ Hid (Box wr (w.heap.size + 1) [.string ⟨#[]⟩, .string ⟨#[]⟩])) (fun i _ => n - (intOf i).toNat)
  case atStart => exact ⟨0, by omega, rfl, HO, B1, R1⟩
  case round =>
    obtain ⟨k, hk, rfl, hr, hb, hR⟩ := hrel
    by_cases hlt : k < n
    · have hkL : k < L.length := by rw [HL.out]; exact hlt
      obtain ⟨b, q, x0, x1, rfl, hc0, hc1, hy⟩ := srcFl (HH.out.below hb.out) hkL
      have hx0 : x0.size ≤ 100000 := by have := HS.out _ (fl_mem L k hkL); rw [hy.out] at this; exact this
      have HF := find_step L nm k hkL
      rw [hy.out, hr.out] at HF
      obtain ⟨U, hU⟩ : ∃ U, bsOf (lowL x0) = U := ⟨_, rfl⟩
      have HC : ∀ w, Calls Tryd.prog 43 #[.string x0] w fun e w' => e = .returned (.string U) ∧ Below w.heap.size w w' := fun w => by rw [← hU]; exact smallC x0 w hx0
      have hq : (U.toList == T.toList) = sameN nm (x0, x1) := by rw [← hU, ← HT.out]; exact sameN_toList x0 nm x1
      clear hU hkL hx0
      cases hS : sameN nm (x0, x1) with
      | true =>
        rw [hS] at hq HF
        simp only [if_true] at HF
        have HOO : Hid (o = some (x0, x1)) := HF
        clear HF hS
        go_wp2_with (go_at_call 43; refine (HC _).mono ?_; rintro e w2 ⟨rfl, hb2⟩; have BX := Box.below (Box.new (w := wr) (vs := #[.string x0, .string x1]) (t := 33) rfl) hb2; have y0 := (BX 0 _ rfl).1; have y1 := (BX 1 _ rfl).1; have RX := Box.below (hR.out.old (.cells #[.string x0, .string x1] 33)) hb2; obtain ⟨g0, gf0⟩ := RX 0 _ rfl; obtain ⟨g1, gf1⟩ := (RX.set 0 (.string x0)) 1 _ rfl; have RE := (RX.set 0 (.string x0)).set 1 (.string x1); obtain ⟨r0, _⟩ := RE 0 _ rfl; obtain ⟨r1, _⟩ := RE 1 _ rfl; have BB : Hid (Below w.heap.size w w2) := (hb.out.trans ((Below.new hb2).mono hb.out.size)); clear BX RX RE hb2)
        exact bodyPost_ret (v := .tuple #[.agg #[.string x0, .string x1], .bool true]) (by simp [results, Tryd.results40, go_sem, r0, r1]) rfl ⟨by rw [HOO.out]; rfl, (BB.out.setCell (by dsimp only; omega) _).setCell (by dsimp only; omega) _⟩
      | false =>
        rw [hS] at hq HF
        simp only [Bool.false_eq_true, if_false] at HF
        have HN : Hid ((L.drop (k + 1)).find? (sameN nm) = o) := HF.symm
        clear HF hS
        go_wp2_with (go_at_call 43; refine (HC _).mono ?_; rintro e w2 ⟨rfl, hb2⟩)
        exact ⟨⟨k + 1, by omega, by go_num, HN, hb.out.trans ((Below.new hb2).mono hb.out.size), Box.below (hR.out.old _) hb2⟩, by simp [intOf]; omega⟩
    · have HOO : Hid (o = none) := by show _ = _; rw [← hr.out, find_end L nm k (by rw [HL.out]; omega)]
      obtain ⟨g0, gf0⟩ := hR.out 0 _ rfl
      obtain ⟨g1, gf1⟩ := (hR.out.set 0 (.string ⟨#[]⟩)) 1 _ rfl
      have RE := (hR.out.set 0 (.string ⟨#[]⟩)).set 1 (.string ⟨#[]⟩)
      obtain ⟨r0, _⟩ := RE 0 _ rfl
      obtain ⟨r1, _⟩ := RE 1 _ rfl
      clear RE
      go_wp2_with fail
      exact bodyPost_ret (v := .tuple #[.agg #[.string ⟨#[]⟩, .string ⟨#[]⟩], .bool false]) (by simp [results, Tryd.results40, go_sem, r0, r1]) rfl ⟨by rw [HOO.out]; rfl, (hb.out.setCell (by dsimp only; omega) _).setCell (by dsimp only; omega) _⟩

/-- What was found, as the specification tells it. -/
def fldS : Option MFl → ByteArray × Bool
  | some f => (f.2, true)
  | none => (⟨#[]⟩, false)
set_option maxHeartbeats 1000000 in
theorem l08FieldS (a : Option Addr) (n c : Nat) (L : List MFl) (Y nm : ByteArray) (w : World) (hL : L.length = n) (hn : n ≤ 100000) (hs : ∀ x ∈ L, x.1.size ≤ 100000) (hnm : nm.size ≤ 100000) (h : Src w a (cellsFl L)) :
    Calls Tryd.prog 42 #[.agg #[.slice a n c, .string Y], .string nm] w fun e w' => e = .returned (.tuple #[.string (fldS (findF L nm)).1, .bool (fldS (findF L nm)).2]) ∧ Below w.heap.size w w' := by
  obtain ⟨V, F, hVF⟩ : ∃ V F, fldS (findF L nm) = (V, F) := ⟨_, _, rfl⟩
  rw [hVF]
  obtain ⟨T, hT⟩ : ∃ T, bsOf (lowL nm) = T := ⟨_, rfl⟩
  have HC0 : ∀ w, Calls Tryd.prog 65 #[.string nm] w fun e w' => e = .returned (.string T) ∧ Below w.heap.size w w' := fun w => by rw [← hT]; exact smallD nm w hnm
  have HT : Hid (bsOf (lowL nm) = T) := hT
  have HO : Hid (fldS ((L.drop 0).find? (sameN nm)) = (V, F)) := hVF
  have HH : Hid (Src w a (cellsFl L)) := h
  have HL : Hid (L.length = n) := hL
  have HS : Hid (∀ x ∈ L, x.1.size ≤ 100000) := hs
  clear h hL hs hVF hT hnm
  go_enter Tryd.func42, Tryd.ntmps42
  go_wp2_with fail
  go_loopw [6] (fun i wr => ∃ k : Nat, k ≤ n ∧ i = .int .i64 (k : Int) ∧ Hid (fldS ((L.drop k).find? (sameN nm)) = (V, F)) ∧ Hid (Below w.heap.size w wr) ∧ Hid (Box wr w.heap.size [.slice a n c, .string Y])) (fun i _ => n - (intOf i).toNat)
  case atStart => exact ⟨0, by omega, rfl, HO, (Below.refl _ _).alloc (Nat.le_refl _) _, Box.new (vs := #[.slice a n c, .string Y]) rfl⟩
  case round =>
    obtain ⟨k, hk, rfl, hr, hb, hR⟩ := hrel
    have bx0 := (hR.out 0 _ rfl).1
    by_cases hlt : k < n
    · have hkL : k < L.length := by rw [HL.out]; exact hlt
      obtain ⟨b, q, x0, x1, rfl, hc0, hc1, hy⟩ := srcFl (HH.out.below hb.out) hkL
      have hx0 : x0.size ≤ 100000 := by have := HS.out _ (fl_mem L k hkL); rw [hy.out] at this; exact this
      have HF := hr.out
      rw [find_step L nm k hkL, hy.out] at HF
      obtain ⟨U, hU⟩ : ∃ U, bsOf (lowL x0) = U := ⟨_, rfl⟩
      have HC : ∀ w, Calls Tryd.prog 65 #[.string x0] w fun e w' => e = .returned (.string U) ∧ Below w.heap.size w w' := fun w => by rw [← hU]; exact smallD x0 w hx0
      have hq : (U.toList == T.toList) = sameN nm (x0, x1) := by rw [← hU, ← HT.out]; exact sameN_toList x0 nm x1
      have HB1 : Hid (w.heap.size < wr.heap.size) := World.block_lt_of_cell? _ _ bx0
      have HCC : Hid (wr.cell? ⟨b, q + k * 2 + 1, none⟩ = some (.string x1)) := hc1
      clear hU hkL hx0
      cases hS : sameN nm (x0, x1) with
      | true =>
        rw [hS] at hq HF
        simp only [if_true] at HF
        obtain ⟨rfl, rfl⟩ : x1 = V ∧ true = F := by simpa [fldS] using HF
        clear HF hS
        go_wp2_with fail
        refine (HC _).mono ?_
        rintro e w2 ⟨rfl, hb2⟩
        go_wp2_with fail
        refine (HC0 _).mono ?_
        rintro e w3 ⟨rfl, hb3⟩
        have HB3 : Hid (Below wr.heap.size wr w3) := hb2.trans (hb3.mono hb2.size)
        have e1 : w3.cell? ⟨b, q + k * 2 + 1, none⟩ = some (.string x1) := (HB3.out.cell (p := ⟨b, q + k * 2 + 1, none⟩) (World.block_lt_of_cell? _ _ HCC.out)).trans HCC.out
        have e0 : w3.cell? ⟨w.heap.size, 0, none⟩ = some (.slice (some ⟨b, q, none⟩) n c) := ((hR.out.below HB3.out) 0 _ rfl).1
        clear hb2 hb3 bx0 hc0 hc1
        go_wp2_with fail
        go_ret2
        exact ⟨rfl, hb.out.trans (HB3.out.mono hb.out.size)⟩
      | false =>
        rw [hS] at hq HF
        simp only [Bool.false_eq_true, if_false] at HF
        have HN : Hid (fldS ((L.drop (k + 1)).find? (sameN nm)) = (V, F)) := HF
        clear HF hS
        go_wp2_with fail
        refine (HC _).mono ?_
        rintro e w2 ⟨rfl, hb2⟩
        go_wp2_with fail
        refine (HC0 _).mono ?_
        rintro e w3 ⟨rfl, hb3⟩
        have HB3 : Hid (Below wr.heap.size wr w3) := hb2.trans (hb3.mono hb2.size)
        clear hb2 hb3 bx0 hc0 hc1
        go_wp2_with fail
        exact ⟨⟨k + 1, by omega, by go_num, HN, hb.out.trans (HB3.out.mono hb.out.size), hR.out.below HB3.out⟩, by simp [intOf]; omega⟩
    · have HF := hr.out
      rw [find_end L nm k (by rw [HL.out]; omega)] at HF
      obtain ⟨rfl, rfl⟩ : (⟨#[]⟩ : ByteArray) = V ∧ false = F := by simpa [fldS] using HF
      clear HF
      go_wp2_with fail
      go_ret2
      exact ⟨rfl, hb.out⟩
end Go.Proofs.YtgbhjhbmolgbeaaDoor
