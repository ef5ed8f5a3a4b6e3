
/-
  The words of flags, of the program and of the specification. By an AI agent.
-/
import Derived.Test.YtkkfeaajcbnlnaaFlx
namespace Go.Proofs.Ytkkfeaajcbnlnaa
open Go.ChangeShapes Go.WideShapes Go.ChangeAt Go.RowKit Go.Deep
set_option linter.unusedVariables false
set_option maxRecDepth 100000

theorem src_oneF {w : World} {s : ByteArray} {B ty : Nat} (hB : B = w.heap.size) : Src (w.alloc (.cells #[.string s] ty)) (some ⟨B, 0, none⟩) (cellsS [s]) := by
  have hb : Box (w.alloc (.cells #[.string s] ty)) B [.string s] := Box.new hB
  refine .inr ⟨B, 0, rfl, fun j hj => ?_⟩
  have hj4 : j < 1 := hj
  rw [Nat.zero_add]
  match j, hj4 with
  | 0, _ => exact (hb 0 _ rfl).1
theorem flagsFitI (f : Int) (w : World) : Calls Try.prog 20 #[.int .i64 f] w fun e w' => e = .returned (.bool (decide (0 ≤ f) && decide (f ≤ 3))) ∧ w' = w := by
  go_enter Try.func20, Try.ntmps20
  go_wp2
  all_goals
    go_ret
    exact ⟨ret_bool (by rw [Bool.eq_iff_iff]; simp; omega), rfl⟩
theorem l01InS (x lo hi : Int) (w : World) : Calls Try.prog 18 #[.int .i64 x, .int .i64 lo, .int .i64 hi] w fun e w' => e = .returned (.bool (decide (lo ≤ x) && decide (x ≤ hi))) ∧ w' = w := by
  go_enter Try.func18, Try.ntmps18
  go_wp2
  all_goals
    go_ret
    exact ⟨ret_bool (by rw [Bool.eq_iff_iff]; simp; omega), rfl⟩
theorem small_join (f : Int) (h : 0 ≤ f ∧ f ≤ 3) : (joinB (wordsF f) ⟨#[32]⟩).size ≤ 1048576 ∧ (∀ k ≤ (wordsF f).length, (joinB ((wordsF f).take k) ⟨#[32]⟩).size ≤ 1048576) ∧ ∀ s ∈ wordsF f, s.size ≤ 1048576 := by
  have h4 : f = 0 ∨ f = 1 ∨ f = 2 ∨ f = 3 := by omega
  rcases h4 with rfl | rfl | rfl | rfl <;> decide

set_option maxHeartbeats 2000000 in
theorem implFlags0 (w : World) : Calls Try.prog 14 #[.int .i64 0] w fun e w' => e = .returned (.tuple #[.string (flagsA 0).1, .int .i64 (flagsA 0).2]) ∧ Below w.heap.size w w' := by
  show Calls Try.prog 14 #[.int .i64 0] w fun e w' => e = .returned (.tuple #[.string ((⟨#[40]⟩ ++ joinB [] ⟨#[32]⟩) ++ ⟨#[41]⟩), .int .i64 0]) ∧ Below w.heap.size w w'
  obtain ⟨T, hT⟩ : ∃ T, joinB [] ⟨#[32]⟩ = T := ⟨_, rfl⟩
  have HT : Hid (joinB [] ⟨#[32]⟩ = T) := hT
  have ZT : T.size ≤ 1048576 := by rw [← hT]; decide
  rw [hT]
  clear hT
  have q1 : (bits BinOp.and IntKind.i64 0 1 != 0) = false := by kernel_rfl
  have q2 : (bits BinOp.and IntKind.i64 0 2 != 0) = false := by kernel_rfl
  go_enter Try.func14, Try.ntmps14
  go_wp2_with fail
  refine (flagsFitI 0 _).mono ?_
  rintro e w0 ⟨rfl, rfl⟩
  go_wp2_with fail
  refine (joinOwn w0.heap.size 0 _ [] _ _ (by omega) (by decide) (World.ownsRow_nil _ _ _ _)).mono ?_
  rw [HT.out]
  rintro e w1 ⟨rfl, hb1⟩
  go_wp2_with fail
  go_ret2
  exact ⟨rfl, hb1⟩

set_option maxHeartbeats 2000000 in
theorem implFlags1 (w : World) : Calls Try.prog 14 #[.int .i64 1] w fun e w' => e = .returned (.tuple #[.string (flagsA 1).1, .int .i64 (flagsA 1).2]) ∧ Below w.heap.size w w' := by
  show Calls Try.prog 14 #[.int .i64 1] w fun e w' => e = .returned (.tuple #[.string ((⟨#[40]⟩ ++ joinB [seenT] ⟨#[32]⟩) ++ ⟨#[41]⟩), .int .i64 0]) ∧ Below w.heap.size w w'
  obtain ⟨T, hT⟩ : ∃ T, joinB [seenT] ⟨#[32]⟩ = T := ⟨_, rfl⟩
  have HT : Hid (joinB [seenT] ⟨#[32]⟩ = T) := hT
  have ZT : T.size ≤ 1048576 := by rw [← hT]; decide
  rw [hT]
  clear hT
  have q1 : (bits BinOp.and IntKind.i64 1 1 != 0) = true := by kernel_rfl
  have q2 : (bits BinOp.and IntKind.i64 1 2 != 0) = false := by kernel_rfl
  go_enter Try.func14, Try.ntmps14
  go_wp2_with fail
  refine (flagsFitI 1 _).mono ?_
  rintro e w0 ⟨rfl, rfl⟩
  go_wp2_with (at_builtin; refine wpList_append_src _ rfl _ _ 38 rfl w0.heap.size 9 (.string ⟨#[]⟩) 1 16 Try.underlying38 infoS rfl (by decide) (by decide) _ 0 [] rfl (World.ownsRow_nil _ _ _ _) (some ⟨w0.heap.size, 0, none⟩) 1 1 (cellsS [seenT]) rfl rfl (src_oneF rfl) (cellsS_one _) (by omega) (by simp) ?_)
  intro v1 w1 hown hgrow
  have HO : Hid (w1.ownsRow w0.heap.size 9 1 v1 1 (cellsS [seenT])) := by simpa [Hid] using hown
  have HB : Hid (Below w0.heap.size w0 w1) := ((Below.refl _ _).alloc (Nat.le_refl _) _).grown hgrow (by simp) (fun k e => by cases e)
  clear hown hgrow
  go_wp2_with fail
  refine (joinOwn w0.heap.size 1 _ [seenT] _ _ (by omega) (by decide) HO.out).mono ?_
  rw [HT.out]
  rintro e w2 ⟨rfl, hb2⟩
  have HB2 : Hid (Below w0.heap.size w0 w2) := HB.out.trans (hb2.mono HB.out.size)
  clear hb2
  go_wp2_with fail
  go_ret2
  exact ⟨rfl, HB2.out⟩

set_option maxHeartbeats 2000000 in
theorem implFlags2 (w : World) : Calls Try.prog 14 #[.int .i64 2] w fun e w' => e = .returned (.tuple #[.string (flagsA 2).1, .int .i64 (flagsA 2).2]) ∧ Below w.heap.size w w' := by
  show Calls Try.prog 14 #[.int .i64 2] w fun e w' => e = .returned (.tuple #[.string ((⟨#[40]⟩ ++ joinB [delT] ⟨#[32]⟩) ++ ⟨#[41]⟩), .int .i64 0]) ∧ Below w.heap.size w w'
  obtain ⟨T, hT⟩ : ∃ T, joinB [delT] ⟨#[32]⟩ = T := ⟨_, rfl⟩
  have HT : Hid (joinB [delT] ⟨#[32]⟩ = T) := hT
  have ZT : T.size ≤ 1048576 := by rw [← hT]; decide
  rw [hT]
  clear hT
  have q1 : (bits BinOp.and IntKind.i64 2 1 != 0) = false := by kernel_rfl
  have q2 : (bits BinOp.and IntKind.i64 2 2 != 0) = true := by kernel_rfl
  go_enter Try.func14, Try.ntmps14
  go_wp2_with fail
  refine (flagsFitI 2 _).mono ?_
  rintro e w0 ⟨rfl, rfl⟩
  go_wp2_with (at_builtin; refine wpList_append_src _ rfl _ _ 38 rfl w0.heap.size 9 (.string ⟨#[]⟩) 1 16 Try.underlying38 infoS rfl (by decide) (by decide) _ 0 [] rfl (World.ownsRow_nil _ _ _ _) (some ⟨w0.heap.size, 0, none⟩) 1 1 (cellsS [delT]) rfl rfl (src_oneF rfl) (cellsS_one _) (by omega) (by simp) ?_)
  intro v1 w1 hown hgrow
  have HO : Hid (w1.ownsRow w0.heap.size 9 1 v1 1 (cellsS [delT])) := by simpa [Hid] using hown
  have HB : Hid (Below w0.heap.size w0 w1) := ((Below.refl _ _).alloc (Nat.le_refl _) _).grown hgrow (by simp) (fun k e => by cases e)
  clear hown hgrow
  go_wp2_with fail
  refine (joinOwn w0.heap.size 1 _ [delT] _ _ (by omega) (by decide) HO.out).mono ?_
  rw [HT.out]
  rintro e w2 ⟨rfl, hb2⟩
  have HB2 : Hid (Below w0.heap.size w0 w2) := HB.out.trans (hb2.mono HB.out.size)
  clear hb2
  go_wp2_with fail
  go_ret2
  exact ⟨rfl, HB2.out⟩

set_option maxHeartbeats 2000000 in
theorem implFlags3 (w : World) : Calls Try.prog 14 #[.int .i64 3] w fun e w' => e = .returned (.tuple #[.string (flagsA 3).1, .int .i64 (flagsA 3).2]) ∧ Below w.heap.size w w' := by
  show Calls Try.prog 14 #[.int .i64 3] w fun e w' => e = .returned (.tuple #[.string ((⟨#[40]⟩ ++ joinB [seenT, delT] ⟨#[32]⟩) ++ ⟨#[41]⟩), .int .i64 0]) ∧ Below w.heap.size w w'
  obtain ⟨T, hT⟩ : ∃ T, joinB [seenT, delT] ⟨#[32]⟩ = T := ⟨_, rfl⟩
  have HT : Hid (joinB [seenT, delT] ⟨#[32]⟩ = T) := hT
  have ZT : T.size ≤ 1048576 := by rw [← hT]; decide
  rw [hT]
  clear hT
  have q1 : (bits BinOp.and IntKind.i64 3 1 != 0) = true := by kernel_rfl
  have q2 : (bits BinOp.and IntKind.i64 3 2 != 0) = true := by kernel_rfl
  go_enter Try.func14, Try.ntmps14
  go_wp2_with fail
  refine (flagsFitI 3 _).mono ?_
  rintro e w0 ⟨rfl, rfl⟩
  go_wp2_with (at_builtin; refine wpList_append_src _ rfl _ _ 38 rfl w0.heap.size 9 (.string ⟨#[]⟩) 1 16 Try.underlying38 infoS rfl (by decide) (by decide) _ 0 [] rfl (World.ownsRow_nil _ _ _ _) (some ⟨w0.heap.size, 0, none⟩) 1 1 (cellsS [seenT]) rfl rfl (src_oneF rfl) (cellsS_one _) (by omega) (by simp) ?_)
  intro v1 w1 hown hgrow
  have HO : Hid (w1.ownsRow w0.heap.size 9 1 v1 1 (cellsS [seenT])) := by simpa [Hid] using hown
  have HB : Hid (Below w0.heap.size w0 w1) := ((Below.refl _ _).alloc (Nat.le_refl _) _).grown hgrow (by simp) (fun k e => by cases e)
  clear hown hgrow
  go_wp2_with (at_builtin; refine wpList_append_src _ rfl _ _ 38 rfl w0.heap.size 9 (.string ⟨#[]⟩) 1 16 Try.underlying38 infoS rfl (by decide) (by decide) _ 1 (cellsS [seenT]) rfl (HO.out.alloc _) (some ⟨w1.heap.size, 0, none⟩) 1 1 (cellsS [delT]) rfl rfl (src_oneF rfl) (cellsS_one _) (by omega) (le_alloc HB.out.size _) ?_)
  intro v2 w2 hown hgrow
  have HO2 : Hid (w2.ownsRow w0.heap.size 9 1 v2 2 (cellsS [seenT, delT])) := by simpa [Hid, cellsS] using hown
  have HB2 : Hid (Below w0.heap.size w0 w2) := (HB.out.alloc HB.out.size _).grown hgrow (le_alloc HB.out.size _) (fun k e => (HO.out.lt k e).1)
  clear hown hgrow
  go_wp2_with fail
  refine (joinOwn w0.heap.size 2 _ [seenT, delT] _ _ (by omega) (by decide) HO2.out).mono ?_
  rw [HT.out]
  rintro e w3 ⟨rfl, hb3⟩
  have HB3 : Hid (Below w0.heap.size w0 w3) := HB2.out.trans (hb3.mono HB2.out.size)
  clear hb3
  go_wp2_with fail
  go_ret2
  exact ⟨rfl, HB3.out⟩
set_option maxHeartbeats 2000000 in
theorem implFlagsText (f : Int) (w : World) : Calls Try.prog 14 #[.int .i64 f] w fun e w' => e = .returned (.tuple #[.string (flagsA f).1, .int .i64 (flagsA f).2]) ∧ Below w.heap.size w w' := by
  by_cases h : 0 ≤ f ∧ f ≤ 3
  · have h4 : f = 0 ∨ f = 1 ∨ f = 2 ∨ f = 3 := by omega
    rcases h4 with rfl | rfl | rfl | rfl
    · exact implFlags0 w
    · exact implFlags1 w
    · exact implFlags2 w
    · exact implFlags3 w
  · have hf : flagsA f = (⟨#[]⟩, 4) := by unfold flagsA; rw [if_neg h]
    rw [hf]
    have hc := flagsFitI f
    rw [show (decide (0 ≤ f) && decide (f ≤ 3)) = false from by rw [Bool.eq_false_iff]; simp; omega] at hc
    clear hf
    go_enter Try.func14, Try.ntmps14
    go_wp2_with fail
    refine (hc _).mono ?_
    rintro e w0 ⟨rfl, rfl⟩
    go_wp2_with fail
    go_ret2
    exact ⟨rfl, Below.refl _ _⟩

set_option maxHeartbeats 2000000 in
theorem l10Flags0 (w : World) : Calls Try.prog 19 #[.int .i64 0] w fun e w' => e = .returned (.string (flagsA 0).1) ∧ Below w.heap.size w w' := by
  show Calls Try.prog 19 #[.int .i64 0] w fun e w' => e = .returned (.string ((⟨#[40]⟩ ++ joinB [] ⟨#[32]⟩) ++ ⟨#[41]⟩)) ∧ Below w.heap.size w w'
  obtain ⟨T, hT⟩ : ∃ T, joinB [] ⟨#[32]⟩ = T := ⟨_, rfl⟩
  have HT : Hid (joinB [] ⟨#[32]⟩ = T) := hT
  have ZT : T.size ≤ 1048576 := by rw [← hT]; decide
  rw [hT]
  clear hT
  have q1 : (bits BinOp.and IntKind.i64 0 1 != 0) = false := by kernel_rfl
  have q2 : (bits BinOp.and IntKind.i64 0 2 != 0) = false := by kernel_rfl
  go_enter Try.func19, Try.ntmps19
  go_wp2_with fail
  refine (l00JoinS _ 0 _ [] _ _ rfl (by omega) (by decide) (by decide) (by decide) (.inl rfl)).mono ?_
  rw [HT.out]
  rintro e wz ⟨rfl, hbz⟩
  have HBZ : Hid (Below w.heap.size w wz) := Below.new hbz
  clear hbz
  go_wp2_with fail
  go_ret
  exact ⟨rfl, HBZ.out⟩

set_option maxHeartbeats 2000000 in
theorem l10Flags1 (w : World) : Calls Try.prog 19 #[.int .i64 1] w fun e w' => e = .returned (.string (flagsA 1).1) ∧ Below w.heap.size w w' := by
  show Calls Try.prog 19 #[.int .i64 1] w fun e w' => e = .returned (.string ((⟨#[40]⟩ ++ joinB [seenT] ⟨#[32]⟩) ++ ⟨#[41]⟩)) ∧ Below w.heap.size w w'
  obtain ⟨T, hT⟩ : ∃ T, joinB [seenT] ⟨#[32]⟩ = T := ⟨_, rfl⟩
  have HT : Hid (joinB [seenT] ⟨#[32]⟩ = T) := hT
  have ZT : T.size ≤ 1048576 := by rw [← hT]; decide
  rw [hT]
  clear hT
  have q1 : (bits BinOp.and IntKind.i64 1 1 != 0) = true := by kernel_rfl
  have q2 : (bits BinOp.and IntKind.i64 1 2 != 0) = false := by kernel_rfl
  go_enter Try.func19, Try.ntmps19
  go_wp2_with (at_builtin; refine wpList_append_src _ rfl _ _ 38 rfl w.heap.size 9 (.string ⟨#[]⟩) 1 16 Try.underlying38 infoS rfl (by decide) (by decide) _ 0 [] rfl ((own_empty (by simp) (by simp) : (w.alloc (.cells #[] 9)).ownsRow w.heap.size 9 1 (.slice (some ⟨w.heap.size, 0, none⟩) 0 0) 0 []).alloc _) (some ⟨w.heap.size + 1, 0, none⟩) 1 1 (cellsS [seenT]) rfl rfl (src_oneF (by simp)) (cellsS_one _) (by omega) (by simp; omega) ?_)
  intro v1 w1 hown hgrow
  have HO1 : Hid (w1.ownsRow w.heap.size 9 1 v1 1 (cellsS [seenT])) := by simpa [Hid, cellsS] using hown
  have HB1 : Hid (Below w.heap.size w w1) := (((Below.refl _ _).alloc (Nat.le_refl _) _).alloc (by simp) _).grown hgrow (by simp; omega) (fun k e => by simp [Value.ownBlock] at e; omega)
  clear hown hgrow
  obtain ⟨aa, cc, rfl, hsrc, _⟩ := own_src HO1.out
  have HSRC : Hid (Src w1 aa (cellsS [seenT])) := hsrc
  clear hsrc HO1
  go_wp2_with fail
  refine (l00JoinS aa 1 cc [seenT] _ _ rfl (by omega) (by decide) (by decide) (by decide) HSRC.out).mono ?_
  rw [HT.out]
  rintro e wz ⟨rfl, hbz⟩
  have HBZ : Hid (Below w.heap.size w wz) := HB1.out.trans (hbz.mono HB1.out.size)
  clear hbz
  go_wp2_with fail
  go_ret
  exact ⟨rfl, HBZ.out⟩

set_option maxHeartbeats 2000000 in
theorem l10Flags2 (w : World) : Calls Try.prog 19 #[.int .i64 2] w fun e w' => e = .returned (.string (flagsA 2).1) ∧ Below w.heap.size w w' := by
  show Calls Try.prog 19 #[.int .i64 2] w fun e w' => e = .returned (.string ((⟨#[40]⟩ ++ joinB [delT] ⟨#[32]⟩) ++ ⟨#[41]⟩)) ∧ Below w.heap.size w w'
  obtain ⟨T, hT⟩ : ∃ T, joinB [delT] ⟨#[32]⟩ = T := ⟨_, rfl⟩
  have HT : Hid (joinB [delT] ⟨#[32]⟩ = T) := hT
  have ZT : T.size ≤ 1048576 := by rw [← hT]; decide
  rw [hT]
  clear hT
  have q1 : (bits BinOp.and IntKind.i64 2 1 != 0) = false := by kernel_rfl
  have q2 : (bits BinOp.and IntKind.i64 2 2 != 0) = true := by kernel_rfl
  go_enter Try.func19, Try.ntmps19
  go_wp2_with (at_builtin; refine wpList_append_src _ rfl _ _ 38 rfl w.heap.size 9 (.string ⟨#[]⟩) 1 16 Try.underlying38 infoS rfl (by decide) (by decide) _ 0 [] rfl ((own_empty (by simp) (by simp) : (w.alloc (.cells #[] 9)).ownsRow w.heap.size 9 1 (.slice (some ⟨w.heap.size, 0, none⟩) 0 0) 0 []).alloc _) (some ⟨w.heap.size + 1, 0, none⟩) 1 1 (cellsS [delT]) rfl rfl (src_oneF (by simp)) (cellsS_one _) (by omega) (by simp; omega) ?_)
  intro v1 w1 hown hgrow
  have HO1 : Hid (w1.ownsRow w.heap.size 9 1 v1 1 (cellsS [delT])) := by simpa [Hid, cellsS] using hown
  have HB1 : Hid (Below w.heap.size w w1) := (((Below.refl _ _).alloc (Nat.le_refl _) _).alloc (by simp) _).grown hgrow (by simp; omega) (fun k e => by simp [Value.ownBlock] at e; omega)
  clear hown hgrow
  obtain ⟨aa, cc, rfl, hsrc, _⟩ := own_src HO1.out
  have HSRC : Hid (Src w1 aa (cellsS [delT])) := hsrc
  clear hsrc HO1
  go_wp2_with fail
  refine (l00JoinS aa 1 cc [delT] _ _ rfl (by omega) (by decide) (by decide) (by decide) HSRC.out).mono ?_
  rw [HT.out]
  rintro e wz ⟨rfl, hbz⟩
  have HBZ : Hid (Below w.heap.size w wz) := HB1.out.trans (hbz.mono HB1.out.size)
  clear hbz
  go_wp2_with fail
  go_ret
  exact ⟨rfl, HBZ.out⟩

set_option maxHeartbeats 2000000 in
theorem l10Flags3 (w : World) : Calls Try.prog 19 #[.int .i64 3] w fun e w' => e = .returned (.string (flagsA 3).1) ∧ Below w.heap.size w w' := by
  show Calls Try.prog 19 #[.int .i64 3] w fun e w' => e = .returned (.string ((⟨#[40]⟩ ++ joinB [seenT, delT] ⟨#[32]⟩) ++ ⟨#[41]⟩)) ∧ Below w.heap.size w w'
  obtain ⟨T, hT⟩ : ∃ T, joinB [seenT, delT] ⟨#[32]⟩ = T := ⟨_, rfl⟩
  have HT : Hid (joinB [seenT, delT] ⟨#[32]⟩ = T) := hT
  have ZT : T.size ≤ 1048576 := by rw [← hT]; decide
  rw [hT]
  clear hT
  have q1 : (bits BinOp.and IntKind.i64 3 1 != 0) = true := by kernel_rfl
  have q2 : (bits BinOp.and IntKind.i64 3 2 != 0) = true := by kernel_rfl
  go_enter Try.func19, Try.ntmps19
  go_wp2_with (at_builtin; refine wpList_append_src _ rfl _ _ 38 rfl w.heap.size 9 (.string ⟨#[]⟩) 1 16 Try.underlying38 infoS rfl (by decide) (by decide) _ 0 [] rfl ((own_empty (by simp) (by simp) : (w.alloc (.cells #[] 9)).ownsRow w.heap.size 9 1 (.slice (some ⟨w.heap.size, 0, none⟩) 0 0) 0 []).alloc _) (some ⟨w.heap.size + 1, 0, none⟩) 1 1 (cellsS [seenT]) rfl rfl (src_oneF (by simp)) (cellsS_one _) (by omega) (by simp; omega) ?_)
  intro v1 w1 hown hgrow
  have HO1 : Hid (w1.ownsRow w.heap.size 9 1 v1 1 (cellsS [seenT])) := by simpa [Hid, cellsS] using hown
  have HB1 : Hid (Below w.heap.size w w1) := (((Below.refl _ _).alloc (Nat.le_refl _) _).alloc (by simp) _).grown hgrow (by simp; omega) (fun k e => by simp [Value.ownBlock] at e; omega)
  clear hown hgrow
  go_wp2_with (at_builtin; refine wpList_append_src _ rfl _ _ 38 rfl w.heap.size 9 (.string ⟨#[]⟩) 1 16 Try.underlying38 infoS rfl (by decide) (by decide) _ 1 (cellsS [seenT]) rfl (HO1.out.alloc _) (some ⟨w1.heap.size, 0, none⟩) 1 1 (cellsS [delT]) rfl rfl (src_oneF rfl) (cellsS_one _) (by omega) (le_alloc HB1.out.size _) ?_)
  intro v2 w2 hown hgrow
  have HO2 : Hid (w2.ownsRow w.heap.size 9 1 v2 2 (cellsS [seenT, delT])) := by simpa [Hid, cellsS] using hown
  have HB2 : Hid (Below w.heap.size w w2) := (HB1.out.alloc HB1.out.size _).grown hgrow (le_alloc HB1.out.size _) (fun k e => (HO1.out.lt k e).1)
  clear hown hgrow
  obtain ⟨aa, cc, rfl, hsrc, _⟩ := own_src HO2.out
  have HSRC : Hid (Src w2 aa (cellsS [seenT, delT])) := hsrc
  clear hsrc HO2
  go_wp2_with fail
  refine (l00JoinS aa 2 cc [seenT, delT] _ _ rfl (by omega) (by decide) (by decide) (by decide) HSRC.out).mono ?_
  rw [HT.out]
  rintro e wz ⟨rfl, hbz⟩
  have HBZ : Hid (Below w.heap.size w wz) := HB2.out.trans (hbz.mono HB2.out.size)
  clear hbz
  go_wp2_with fail
  go_ret
  exact ⟨rfl, HBZ.out⟩

set_option maxHeartbeats 2000000 in
theorem specFlagsText (f : Int) (w : World) : Calls Try.prog 13 #[.int .i64 f] w fun e w' => e = .returned (.tuple #[.string (flagsA f).1, .int .i64 (flagsA f).2]) ∧ Below w.heap.size w w' := by
  have hc := l01InS f 0 3
  by_cases h : 0 ≤ f ∧ f ≤ 3
  · have HF : ∀ w, Calls Try.prog 19 #[.int .i64 f] w fun e w' => e = .returned (.string (flagsA f).1) ∧ Below w.heap.size w w' := by
      have h4 : f = 0 ∨ f = 1 ∨ f = 2 ∨ f = 3 := by omega
      rcases h4 with rfl | rfl | rfl | rfl
      · exact l10Flags0
      · exact l10Flags1
      · exact l10Flags2
      · exact l10Flags3
    have hf : (flagsA f).2 = 0 := by unfold flagsA; rw [if_pos h]
    rw [hf]
    obtain ⟨T, hT⟩ : ∃ T, (flagsA f).1 = T := ⟨_, rfl⟩
    rw [hT] at HF ⊢
    rw [show (decide (0 ≤ f) && decide (f ≤ 3)) = true from by simp; omega] at hc
    clear hf hT
    go_enter Try.func13, Try.ntmps13
    go_wp2_with fail
    refine (hc _).mono ?_
    rintro e w0 ⟨rfl, rfl⟩
    go_wp2_with fail
    refine (HF _).mono ?_
    rintro e w1 ⟨rfl, hb1⟩
    go_wp2_with fail
    go_ret2
    exact ⟨rfl, hb1⟩
  · have hf : flagsA f = (⟨#[]⟩, 4) := by unfold flagsA; rw [if_neg h]
    rw [hf]
    rw [show (decide (0 ≤ f) && decide (f ≤ 3)) = false from by rw [Bool.eq_false_iff]; simp; omega] at hc
    clear hf
    go_enter Try.func13, Try.ntmps13
    go_wp2_with fail
    refine (hc _).mono ?_
    rintro e w0 ⟨rfl, rfl⟩
    go_wp2_with fail
    go_ret2
    exact ⟨rfl, Below.refl _ _⟩
end Go.Proofs.Ytkkfeaajcbnlnaa
