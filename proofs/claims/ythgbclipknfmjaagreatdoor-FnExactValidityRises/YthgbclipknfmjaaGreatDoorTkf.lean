
/-
  The desk of a mail store: a folder's pair is taken. By an AI agent.
-/
import Derived.Test.YthgbclipknfmjaaGreatDoorDskm
namespace Go.Proofs.YthgbclipknfmjaaGreatDoor
open Go.ChangeShapes Go.WideShapes Go.ChangeAt Go.RowKit Go.Deep Go.Lib
open Go.ChangeMaps (setBlock)
set_option linter.unusedVariables false
set_option linter.unusedSimpArgs false
set_option maxRecDepth 100000

theorem shortIs (b : Bool) (s : ByteArray) (w : World) (h : shortB s = b) (hs : s.size ≤ maxLen) : Calls Tryz.prog 127 #[.string s] w fun e w' => e = .returned (.bool b) ∧ w' = w := by
  rw [← h]; exact (shortName s w hs).mono fun e w' ⟨h1, h2⟩ => ⟨h1, h2.symm⟩
theorem cut_sizes (v : List UInt8) : (cut v [32]).1.length ≤ v.length ∧ (cut v [32]).2.1.length ≤ v.length := by
  unfold cut
  split
  · exact ⟨by rw [List.length_take]; omega, by rw [List.length_drop]; omega⟩
  · exact ⟨Nat.le_refl _, Nat.zero_le _⟩
/-- What is left of a desk behind a step: its map alone has turned. -/
def Taken (w' : World) (M : Nat) (D : DK) (fs : List FM) (o : Option FM) : Prop := ∀ f, o = some f → ∃ X', DeskAt w' M { D with X := X' } ∧ View D.user X' (putF f fs)
set_option maxHeartbeats 4000000 in
theorem takeFolderI (name v : ByteArray) (w : World) (M : Nat) (D : DK) (fs : List FM) (hD : DeskAt w M D) (hV : View D.user D.X fs) (hF : FsOK fs) (hg : Gl w) (h8 : 8 ≤ M) (hn : name.size ≤ 1000) (hv : v.size ≤ 90) (hu : D.user.size ≤ 1000) (hnx : 1 ≤ D.next ∧ D.next ≤ 10000) (bb : Bool) (HB : Hid ((folderM D.next name v).isSome = bb)) :
    Calls Tryz.prog 146 #[.pointer (some ⟨M + 1, 0, none⟩), .string name, .string v] w fun e w' => e = .returned (.bool bb) ∧ Taken w' M D fs (folderM D.next name v) ∧ Below M w w' := by
  have HD : Hid (DeskAt w M D) := hD
  have HV : Hid (View D.user D.X fs ∧ FsOK fs) := ⟨hV, hF⟩
  have HG : Hid (Gl w) := hg
  obtain ⟨m, hm⟩ := hg.2.2.1
  have CC := Tryz.strings_Cut v ⟨#[32]⟩ m w (by omega) hm
  obtain ⟨hz1, hz2⟩ := cut_sizes v.data.toList
  rw [bytes_len] at hz1 hz2
  obtain ⟨c1, hc1⟩ : ∃ l, (cut v.data.toList [32]).1 = l := ⟨_, rfl⟩
  obtain ⟨c2, hc2⟩ : ∃ l, (cut v.data.toList [32]).2.1 = l := ⟨_, rfl⟩
  obtain ⟨c3, hc3⟩ : ∃ l, (cut v.data.toList [32]).2.2 = l := ⟨_, rfl⟩
  have CC2 : Calls Tryz.prog 151 #[.string v, .string ⟨#[32]⟩] w fun e w' => e = .returned (.tuple #[.string (bs c1), .string (bs c2), .bool c3]) ∧ ∃ n, w' = w.drewN n := by
    rw [← hc1, ← hc2, ← hc3]; exact CC
  rw [hc1] at hz1
  rw [hc2] at hz2
  have hs1 : (bs c1).size ≤ 90 := by have : (bs c1).size = c1.length := rfl; omega
  have hs2 : (bs c2).size ≤ 90 := by have : (bs c2).size = c2.length := rfl; omega
  obtain ⟨R1, hR1⟩ : ∃ R, numB c1 = R := ⟨_, rfl⟩
  obtain ⟨R2, hR2⟩ : ∃ R, numB c2 = R := ⟨_, rfl⟩
  obtain ⟨F, hFm⟩ : ∃ F, folderM D.next name v = F := ⟨_, rfl⟩
  have HFM : Hid (F = folderN D.next name R1 R2) := by
    show _ = _
    rw [← hFm, ← hR1, ← hR2, ← hc1, ← hc2]
    rfl
  rw [hFm] at HB ⊢
  have N1 : ∀ W b, Gl W → 8 ≤ W.heap.size → inB R1 1 (D.next - 1) = b → Calls Tryz.prog 112 #[.string (bs c1), .int .i64 1, .int .i64 (D.next - 1)] W fun e w' => ∃ n, e = .returned (.tuple #[.int .i64 n, .bool b]) ∧ NumPost R1 n ∧ Below W.heap.size W w' := fun W b hg h9 hb => by
    have := numberWithinI (bs c1) 1 (D.next - 1) W (by omega) hg h9 b (by show inB (numB c1) _ _ = b; rw [hR1]; exact hb)
    rw [show numB (bs c1).data.toList = R1 from hR1] at this
    exact this
  have N2 : ∀ W b, Gl W → 8 ≤ W.heap.size → inB R2 1 999 = b → Calls Tryz.prog 112 #[.string (bs c2), .int .i64 1, .int .i64 999] W fun e w' => ∃ n, e = .returned (.tuple #[.int .i64 n, .bool b]) ∧ NumPost R2 n ∧ Below W.heap.size W w' := fun W b hg h9 hb => by
    have := numberWithinI (bs c2) 1 999 W (by omega) hg h9 b (by show inB (numB c2) _ _ = b; rw [hR2]; exact hb)
    rw [show numB (bs c2).data.toList = R2 from hR2] at this
    exact this
  obtain ⟨t1, ht1⟩ : ∃ t, bs c1 = t := ⟨_, rfl⟩
  obtain ⟨t2, ht2⟩ : ∃ t, bs c2 = t := ⟨_, rfl⟩
  rw [ht1] at N1
  rw [ht2] at N2
  rw [ht1, ht2] at CC2
  obtain ⟨b1, hb1⟩ : ∃ b, inB R1 1 (D.next - 1) = b := ⟨_, rfl⟩
  obtain ⟨b2, hb2⟩ : ∃ b, inB R2 1 999 = b := ⟨_, rfl⟩
  obtain ⟨b3, hb3⟩ : ∃ b, shortB name = b := ⟨_, rfl⟩
  have hM1 : M + 1 < w.heap.size := World.block_lt_of_cell? _ _ (hD.1 0 _ rfl).1
  have hans : (b3 && b1 && b2) = bb := by
    rw [← HB.out, HFM.out, ← hb1, ← hb2, ← hb3]
    cases R1 with
    | none => simp [inB, folderN]
    | some x =>
      cases R2 with
      | none => simp [inB, folderN]
      | some y =>
        simp only [inB, folderN]
        rw [Bool.eq_iff_iff]
        by_cases h9 : shortB name = true ∧ 1 ≤ x ∧ x ≤ D.next - 1 ∧ 1 ≤ y ∧ y ≤ 999
        · rw [if_pos h9]
          simp [h9]
        · rw [if_neg h9]
          simp only [Option.isSome_none, Bool.false_eq_true, iff_false, Bool.and_eq_true, decide_eq_true_eq]
          exact fun h8 => h9 ⟨h8.1.1, h8.1.2.1, h8.1.2.2, h8.2.1, h8.2.2⟩
  have HA : Hid ((b3 && b1 && b2) = bb) := hans
  have HN : Hid (1 ≤ D.next ∧ D.next ≤ 10000) := hnx
  have hnx1 : 1 ≤ D.next := hnx.1
  have hnx2 : D.next ≤ 10000 := hnx.2
  clear hc1 hc2 hc3 CC hz1 hz2 hR1 hR2 hFm ht1 ht2 hs1 hs2 hans hnx hm hg hD hV hF HB
  go_enter Tryz.func146, Tryz.ntmps146
  go_wp2_with fail
  refine CC2.mono ?_
  rintro e w1 ⟨rfl, dn, hw1⟩
  have L1 : Below w.heap.size w w1 := by rw [hw1]; exact Below.drewN' (Below.refl _ _) _
  have D1 : Hid (DeskAt w1 M D) := HD.out.later L1
  have B1 : Hid (Below w.heap.size w w1) := L1
  obtain ⟨p2, _⟩ := D1.out.1 2 _ rfl
  clear hw1 L1 CC2
  go_wp2_with fail
  refine (N1 _ b1 (HG.out.below h8 (B1.out.mono (by omega))) (by have := B1.out.size; omega) hb1).mono ?_
  rintro e w2 ⟨x, rfl, hx, hb2'⟩
  have HX : Hid (NumPost R1 x) := hx
  have D2 : Hid (DeskAt w2 M D) := D1.out.later hb2'
  have B2 : Hid (Below w.heap.size w w2) := B1.out.trans (hb2'.mono B1.out.size)
  clear hb2' hx p2 D1 B1
  go_wp2_with fail
  refine (N2 _ b2 (HG.out.below h8 (B2.out.mono (by omega))) (by have := B2.out.size; omega) hb2).mono ?_
  rintro e w3 ⟨y, rfl, hy, hb3'⟩
  have HY : Hid (NumPost R2 y) := hy
  have D3 : Hid (DeskAt w3 M D) := D2.out.later hb3'
  have B3 : Hid (Below w.heap.size w w3) := B2.out.trans (hb3'.mono B2.out.size)
  clear hb3' hy D2 B2
  go_wp2_with fail
  refine (putI ⟨folderK D.user name, 0, name, x, y, .slice none 0 0, []⟩ name x y none 0 0 _ M D rfl (by omega) (by omega) D3.out.head (fun clock => rows_set D3.out.2.2.2 (World.ownsRow_nil _ _ _ _) (HV.out.1.nodup HV.out.2) (fun x' _ _ g _ h9 => by cases h9) clock)).mono ?_
  rintro e w4 ⟨rfl, hd4, hb4⟩
  have B4 : Hid (Below M w w4) := (B3.out.mono (by omega)).trans hb4
  have HT : Hid (Taken w4 M D fs F) := by
    intro f hf
    obtain ⟨clock, hd⟩ := hd4
    refine ⟨_, hd, ?_⟩
    have h9 := HFM.out
    rw [hf] at h9
    cases R1 with
    | none => cases h9
    | some x1 =>
      cases R2 with
      | none => cases h9
      | some y1 =>
        simp only [folderN] at h9
        obtain rfl := HX.out x1 rfl
        obtain rfl := HY.out y1 rfl
        split at h9
        · cases h9
          exact HV.out.1.put (y := ⟨folderK D.user name, 0, name, x, y, .slice none 0 0, []⟩) rfl clock
        · cases h9
  clear hd4 hb4 D3 B3
  go_wp2_with fail
  refine (shortIs b3 name _ hb3 (by unfold maxLen; omega)).mono ?_
  rintro e w5 ⟨rfl, hw5⟩
  obtain rfl := hw5
  cases b3 <;> cases b1 <;> (go_wp2_with fail; go_ret; exact ⟨ret_bool HA.out, HT.out, B4.out⟩)
end Go.Proofs.YthgbclipknfmjaaGreatDoor
