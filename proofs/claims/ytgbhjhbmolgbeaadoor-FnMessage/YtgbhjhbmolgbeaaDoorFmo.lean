
/-
  A message of a source; the law's own comparison of numbers. By an AI agent.
-/
import Derived.Test.YtgbhjhbmolgbeaaDoorDms
import Derived.Test.YtgbhjhbmolgbeaaDoorSrs
namespace Go.Proofs.YtgbhjhbmolgbeaaDoor
open Go.ChangeShapes Go.WideShapes Go.ChangeAt Go.RowKit Go.Deep
set_option linter.unusedVariables false
set_option linter.unusedSimpArgs false
set_option maxRecDepth 100000
set_option maxHeartbeats 1000000 in
theorem sameInts (a b : Option Addr) (n c d : Nat) (L : List Int) (w : World) (hL : L.length = n) (hn : n ≤ 1048576) (ha : Src w a (cellsI L)) (hb : Src w b (cellsI L)) :
    Calls Tryd.prog 18 #[.slice a n c, .slice b n d] w fun e w' => e = .returned (.bool true) ∧ Below w.heap.size w w' := by
  have hne : ((n : Int) != (n : Int)) = false := by simp
  have HA : Hid (Src w a (cellsI L)) := ha
  have HB : Hid (Src w b (cellsI L)) := hb
  have HL : Hid (L.length = n) := hL
  clear ha hb hL
  go_enter Tryd.func18, Tryd.ntmps18
  go_wp2_with fail
  go_loopw [5] (fun i wr => ∃ k : Nat, k ≤ n ∧ i = .int .i64 k ∧ Hid (Below w.heap.size w wr)) (fun i _ => n - (intOf i).toNat)
  case atStart => exact ⟨0, by omega, rfl, Below.refl _ _⟩
  case round =>
    obtain ⟨k, hk, rfl, hB⟩ := hrel
    by_cases hlt : k < n
    · obtain ⟨b1, o1, y, rfl, p1, hy1⟩ := srcI (HA.out.below hB.out) (i := k) (by rw [HL.out]; exact hlt)
      obtain ⟨b2, o2, y2, rfl, p2, hy2⟩ := srcI (HB.out.below hB.out) (i := k) (by rw [HL.out]; exact hlt)
      obtain rfl : y = y2 := hy1.out.symm.trans hy2.out
      have hk0 : (0 : Int) ≤ (k : Int) := by omega
      have hki : (k : Int) < (n : Int) := by omega
      have hyy : (y != y) = false := by simp
      go_wp2_with fail
      go_quiet (fail)
      go_wp2_with fail
      exact ⟨⟨k + 1, by omega, by go_num, Below.drewN' hB.out _⟩, by simp [intOf]; omega⟩
    · go_wp2_with fail
      go_ret
      exact ⟨rfl, hB.out⟩
set_option maxHeartbeats 1000000 in
theorem specMessageOf (ca : Option Addr) (n cc : Nat) (C : List Nat) (w : World) (hC : C.length = n) (hn : n ≤ 1048576) (h8 : ∀ x ∈ C, x < 256) (hs : Src w ca (cellsB C)) :
    Calls Tryd.prog 9 #[.slice ca n cc] w fun e w' => ∃ v D, e = .returned v ∧ drawnM D.F D.Y ∧ ReadsG w' v D ∧ Below w.heap.size w w' := by
  have HS : Hid (Src w ca (cellsB C)) := hs
  clear hs
  go_enter Tryd.func9, Tryd.ntmps9
  go_wp2_with fail
  have A0 : Hid (Below w.heap.size w (w.alloc (.cells #[.slice none 0 0, .string ⟨#[]⟩] 25))) := (Below.refl _ _).alloc (Nat.le_refl _) _
  refine (l00Source ca n cc C _ hC hn h8 (HS.out.below A0.out)).mono ?_
  rintro e w1 ⟨rfl, hz1, hb1, hd1⟩
  rw [show (w.alloc (.cells #[.slice none 0 0, .string ⟨#[]⟩] 25)).heap.size = w.heap.size + 1 by simp] at hd1 ⊢
  have D1 : Hid (DrawOK w1 (w.heap.size + 1) ca n cc 0 C) := hd1
  have B1 : Hid (Below w.heap.size w w1) := Below.new hb1
  have R1 : Hid (Box w1 w.heap.size [.slice none 0 0, .string ⟨#[]⟩]) := Box.below (Box.new rfl) hb1
  clear hd1 hb1 hz1
  go_wp2_with fail
  refine (drawMessage (w.heap.size + 1) n cc 0 ca C _ (by omega) D1.out).mono ?_
  rintro e w2 ⟨v, D, rfl, hok, hru, ht2⟩
  obtain ⟨v1, rfl, hrow⟩ := hru
  obtain ⟨ua, uc, rfl⟩ := hrow.lit
  have BW : Hid (w.heap.size < w1.heap.size) := World.block_lt_of_cell? _ _ (R1.out 0 _ rfl).1
  have Q : Hid (drawnM D.F D.Y ∧ w2.ownsRow w1.heap.size 33 2 (.slice ua D.F.length uc) D.F.length (cellsFl D.F)) := ⟨hok, hrow.1⟩
  have B2 : Hid (Below w.heap.size w w2) := Below.turned B1.out ht2 (Nat.le_refl _) (by omega)
  have R2 : Hid (Box w2 w.heap.size [.slice none 0 0, .string ⟨#[]⟩]) := R1.out.turned ht2 (.inl (by omega))
  obtain ⟨m, hm⟩ : ∃ m, D.F.length = m := ⟨_, rfl⟩
  obtain ⟨Y, hY⟩ : ∃ m, D.Y = m := ⟨_, rfl⟩
  have HD : Hid (D.F.length = m ∧ D.Y = Y) := ⟨hm, hY⟩
  rw [hm] at Q
  rw [hm, hY]
  clear hok hrow ht2 R1 hm hY
  obtain ⟨p0, f0⟩ := R2.out 0 _ rfl
  obtain ⟨p1, f1⟩ := (R2.out.set 0 (.slice ua m uc)) 1 _ rfl
  have X4 := (R2.out.set 0 (.slice ua m uc)).set 1 (.string Y)
  obtain ⟨r0, _⟩ := X4 0 _ rfl
  obtain ⟨r1, _⟩ := X4 1 _ rfl
  clear X4
  have B4 : Hid (Below w.heap.size w ((w2.setCell ⟨w.heap.size, 0, none⟩ (.slice ua m uc)).setCell ⟨w.heap.size, 1, none⟩ (.string Y))) := (B2.out.setCell (Nat.le_refl _) _).setCell (Nat.le_refl _) _
  have RU : Hid (ReadsG ((w2.setCell ⟨w.heap.size, 0, none⟩ (.slice ua m uc)).setCell ⟨w.heap.size, 1, none⟩ (.string Y)) (.agg #[.slice ua m uc, .string Y]) D) := by
    refine ⟨ua, uc, by rw [HD.out.1, HD.out.2], ?_⟩
    have h9 := own_setLow (own_setLow Q.out.2 (a := ⟨w.heap.size, 0, none⟩) (by have := BW.out; dsimp only; omega) (.slice ua m uc)) (a := ⟨w.heap.size, 1, none⟩) (by have := BW.out; dsimp only; omega) (.string Y)
    exact (OwnsR.mk h9 (Nat.le_refl _)).src
  have OK : Hid (drawnM D.F D.Y) := Q.out.1
  go_wp2_with fail
  exact bodyPost_ret (v := .agg #[.slice ua m uc, .string Y]) (by simp [results, Tryd.results9, go_sem, r0, r1]) rfl ⟨_, _, rfl, OK.out, RU.out, B4.out⟩
end Go.Proofs.YtgbhjhbmolgbeaaDoor
