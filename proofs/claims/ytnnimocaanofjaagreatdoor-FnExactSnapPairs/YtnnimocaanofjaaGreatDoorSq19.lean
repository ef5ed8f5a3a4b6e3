/-
  Texts of the store, brought together: Rsu. By an AI agent.
-/
import Derived.Test.YtnnimocaanofjaaGreatDoorSq18
namespace Go.Proofs.YtnnimocaanofjaaGreatDoor
open Go.ChangeShapes Go.WideShapes Go.ChangeAt Go.RowKit Go.Deep
set_option linter.unusedVariables false
set_option linter.unusedSimpArgs false
set_option maxRecDepth 100000
def snapOf (f : ByteArray) : SN := (f.extract 3 f.size, (((bytesOf f).getD 0 0 : Nat) : Int) - 1, (((bytesOf f).getD 1 0 * 256 + (bytesOf f).getD 2 0 : Nat) : Int))
def superA (B : List Nat) : Option UM :=
  if B.length < 3 ∨ B.getD 0 0 ≠ 115 then none else if (rfA (B.drop 3)).2 ≠ 0 then none else
    if ∃ f ∈ (rfA (B.drop 3)).1, f.size < 3 then none else some ⟨((B.getD 1 0 : Nat) : Int), ((B.getD 2 0 : Nat) : Int) - 1, (rfA (B.drop 3)).1.map snapOf⟩
theorem src_byte {w : World} {b o : Nat} {B : List Nat} (h : Src w (some ⟨b, o, none⟩) (cellsB B)) (i : Nat) (hi : i < B.length) : w.cell? ⟨b, o + i, none⟩ = some (.int .u8 ((B.getD i 0 : Nat) : Int)) := by
  rcases h with h7 | ⟨b', o', e7, hcs⟩
  · have h2 := cellsB_length B
    rw [h7] at h2
    simp only [List.length_nil] at h2
    omega
  · cases e7
    rw [hcs i (by rw [cellsB_length]; omega), getD_some (cellsB_get B i (by omega))]
theorem src_oneSn {w : World} {x : ByteArray} {y z : Int} {B t : Nat} (hB : B = w.heap.size) : Src (w.alloc (.cells #[.string x, .int .i64 y, .int .i64 z] t)) (some ⟨B, 0, none⟩) (cellsSn [(x, y, z)]) := by
  have hb : Box (w.alloc (.cells #[.string x, .int .i64 y, .int .i64 z] t)) B [.string x, .int .i64 y, .int .i64 z] := Box.new hB
  refine .inr ⟨B, 0, rfl, fun j hj => ?_⟩
  have hj2 : j < 3 := hj
  rw [Nat.zero_add]
  match j, hj2 with
  | 0, _ => exact (hb 0 _ rfl).1
  | 1, _ => exact (hb 1 _ rfl).1
  | 2, _ => exact (hb 2 _ rfl).1
theorem getD_lt {B : List Nat} (h8 : ∀ x ∈ B, x < 256) (i : Nat) : B.getD i 0 < 256 := by
  rw [List.getD_eq_getElem?_getD]
  by_cases hi : i < B.length
  · rw [List.getElem?_eq_getElem hi]; exact h8 _ (List.getElem_mem _)
  · rw [List.getElem?_eq_none (by omega)]; decide
set_option maxHeartbeats 1000000 in
theorem superOf (b o n c : Nat) (B : List Nat) (w : World) (hB : B.length = n) (hn : n ≤ 65536) (hc : n ≤ c) (hc2 : c ≤ maxLen) (h8 : ∀ x ∈ B, x < 256) (h : Src w (some ⟨b, o, none⟩) (cellsB B)) :
    Calls Tryz.prog 156 #[.slice (some ⟨b, o, none⟩) n c] w fun e w' => ((superA B = none ∧ e = .returned (.tuple #[.agg #[.int .i64 0, .int .i64 0, .slice none 0 0], .bool false])) ∨ (∃ D u, superA B = some D ∧ e = .returned (.tuple #[u, .bool true]) ∧ OwnsU w' w.heap.size w'.heap.size u D)) ∧ Below w.heap.size w w' := by
  by_cases t1 : (n : Int) < 3
  · have F : Hid (superA B = none) := by show _ = none; unfold superA; rw [if_pos (.inl (by omega))]
    clear h h8 hB
    go_enter Tryz.func156, Tryz.ntmps156
    go_wp2_with fail
    exact bodyPost_ret (v := .tuple #[.agg #[.int .i64 0, .int .i64 0, .slice none 0 0], .bool false]) (by simp [results, Tryz.results156, go_sem]) rfl ⟨.inl ⟨F.out, rfl⟩, (Below.refl _ _).alloc (Nat.le_refl _) _⟩
  obtain ⟨x0, hx0⟩ : ∃ x, B.getD 0 0 = x := ⟨_, rfl⟩
  obtain ⟨x1, hx1⟩ : ∃ x, B.getD 1 0 = x := ⟨_, rfl⟩
  obtain ⟨x2, hx2⟩ : ∃ x, B.getD 2 0 = x := ⟨_, rfl⟩
  have hx18 : x1 < 256 := by rw [← hx1]; exact getD_lt h8 1
  have hx28 : x2 < 256 := by rw [← hx2]; exact getD_lt h8 2
  have hx08 : x0 < 256 := by rw [← hx0]; exact getD_lt h8 0
  have CE : Hid (∀ w9, Below w.heap.size w w9 → w9.cell? ⟨b, o, none⟩ = some (.int .u8 (x0 : Int)) ∧ w9.cell? ⟨b, o + 1, none⟩ = some (.int .u8 (x1 : Int)) ∧ w9.cell? ⟨b, o + 2, none⟩ = some (.int .u8 (x2 : Int))) := fun w9 hb9 => by
    have h0 := src_byte (h.below hb9) 0 (by omega)
    have h1 := src_byte (h.below hb9) 1 (by omega)
    have h2 := src_byte (h.below hb9) 2 (by omega)
    rw [hx0, Nat.add_zero] at h0
    rw [hx1] at h1
    rw [hx2] at h2
    exact ⟨h0, h1, h2⟩
  have A0 : Hid (Below w.heap.size w (w.alloc (.cells #[.int .i64 0, .int .i64 0, .slice none 0 0] 42))) := (Below.refl _ _).alloc (Nat.le_refl _) _
  have e0 := (CE.out _ A0.out).1
  by_cases t2 : x0 = 115
  case neg =>
    have F : Hid (superA B = none) := by show _ = none; unfold superA; rw [if_pos (Or.inr (by rw [hx0]; exact t2))]
    have t3 : ((x0 : Int) != 115) = true := by simp; omega
    clear h h8 hB
    go_enter Tryz.func156, Tryz.ntmps156
    go_wp2_with fail
    exact bodyPost_ret (v := .tuple #[.agg #[.int .i64 0, .int .i64 0, .slice none 0 0], .bool false]) (by simp [results, Tryz.results156, go_sem]) rfl ⟨.inl ⟨F.out, rfl⟩, (Below.refl _ _).alloc (Nat.le_refl _) _⟩
  subst t2
  have NF : Hid (¬ (B.length < 3 ∨ B.getD 0 0 ≠ 115)) := by show ¬ _; rw [hx0]; omega
  have HX : Hid (B.getD 1 0 = x1 ∧ B.getD 2 0 = x2) := ⟨hx1, hx2⟩
  have cut1 : ∀ W, (Instr.slice 74 (.slice (some ⟨b, o, none⟩) n c) (some (.int .i64 3)) none none).run Tryz.prog W = .ok (.slice (cutP (some ⟨b, o, none⟩) c 3 1) (n - 3) (c - 3)) W := fun W => cut_l (P := Tryz.prog) (e := 5) Tryz.underlying74 (fun w => Tryz.sizeOf5 w) (some ⟨b, o, none⟩) n c 3 (by omega) W
  have S3 : Hid (Src w (cutP (some ⟨b, o, none⟩) c 3 1) (cellsB (B.drop 3))) := by have h9 := h.tail (n := n) (c := c) (q := 3) (s := 1) (by rw [cellsB_length, hB]; omega) (by omega) hc; rw [Nat.mul_one, cellsB_drop] at h9; exact h9
  have HD : Hid ((B.drop 3).length = n - 3 ∧ (∀ x ∈ B.drop 3, x < 256) ∧ n - 3 ≤ c - 3 ∧ c - 3 ≤ maxLen) := ⟨by rw [List.length_drop, hB], fun x hx => h8 x (List.mem_of_mem_drop hx), by omega, by omega⟩
  generalize cutP (some ⟨b, o, none⟩) c 3 1 = a3 at cut1 S3
  obtain ⟨n3, hn3⟩ : ∃ m, n - 3 = m := ⟨_, rfl⟩
  obtain ⟨c3, hc3⟩ : ∃ m, c - 3 = m := ⟨_, rfl⟩
  rw [hn3, hc3] at cut1
  rw [hn3, hc3] at HD
  have hn39 : n3 ≤ 65536 := by omega
  clear h h8 hB hn3 hc3 hx0 hx1 hx2
  go_enter Tryz.func156, Tryz.ntmps156
  go_wp2_with fail
  refine (implReadFields a3 n3 c3 (B.drop 3) _ HD.out.1 (by omega) HD.out.2.2.1 HD.out.2.2.2 HD.out.2.1 (S3.out.below A0.out)).mono ?_
  rintro e w1 ⟨v1, l, q, rfl, heq, o1, hb1⟩
  obtain ⟨la, lc, rfl, ls, _⟩ := own_src o1
  have RF : Hid (rfA (B.drop 3) = (l, q)) := heq
  have B1 : Hid (Below w.heap.size w w1) := Below.new hb1
  have X1 : Hid (Box w1 w.heap.size [.int .i64 0, .int .i64 0, .slice none 0 0]) := Box.below (Box.new rfl) hb1
  have LS : Hid (Src w1 la (cellsS l) ∧ l.length ≤ 1048576) := ⟨ls, rf_small heq⟩
  clear heq o1 hb1 ls e0 cut1
  by_cases hq : q = 0
  case neg =>
    have F : Hid (superA B = none) := by show _ = none; unfold superA; rw [if_neg NF.out, RF.out, if_pos hq]
    have hq2 : (q != 0) = true := by simpa using hq
    obtain ⟨p0, f0⟩ := X1.out 0 _ rfl
    obtain ⟨p1, f1⟩ := (X1.out.set 0 (.int .i64 0)) 1 _ rfl
    obtain ⟨p2, f2⟩ := ((X1.out.set 0 (.int .i64 0)).set 1 (.int .i64 0)) 2 _ rfl
    have X3 := ((X1.out.set 0 (.int .i64 0)).set 1 (.int .i64 0)).set 2 (.slice none 0 0)
    obtain ⟨r0, _⟩ := X3 0 _ rfl
    obtain ⟨r1, _⟩ := X3 1 _ rfl
    obtain ⟨r2, _⟩ := X3 2 _ rfl
    clear X3
    have B3 : Hid (Below w.heap.size w (((w1.setCell ⟨w.heap.size, 0, none⟩ (.int .i64 0)).setCell ⟨w.heap.size, 1, none⟩ (.int .i64 0)).setCell ⟨w.heap.size, 2, none⟩ (.slice none 0 0))) := ((B1.out.setCell (Nat.le_refl _) _).setCell (Nat.le_refl _) _).setCell (Nat.le_refl _) _
    go_wp2_with fail
    exact bodyPost_ret (v := .tuple #[.agg #[.int .i64 0, .int .i64 0, .slice none 0 0], .bool false]) (by simp [results, Tryz.results156, go_sem, r0, r1, r2]) rfl ⟨.inl ⟨F.out, rfl⟩, B3.out⟩
  subst hq
  obtain ⟨m, hm⟩ : ∃ m, l.length = m := ⟨_, rfl⟩
  have HM : Hid (l.length = m) := hm
  have hm9 : m ≤ 1048576 := by rw [← hm]; exact LS.out.2
  rw [hm]
  have S1 : Hid (Src w1 la (cellsS l)) := LS.out.1
  have Z1 : Hid (w.heap.size + 1 ≤ w1.heap.size) := World.block_lt_of_cell? _ _ (X1.out 0 _ rfl).1
  clear hm LS
  obtain ⟨_, e1, e2⟩ := CE.out _ B1.out
  obtain ⟨_, e1', e2'⟩ := CE.out (w1.alloc (.cells #[.int .i64 0, .int .i64 0, .slice none 0 0] 42)) (B1.out.alloc B1.out.size _)
  have hn1 : (1 : Int) < (n : Int) := by omega
  have hn2 : (2 : Int) < (n : Int) := by omega
  go_wp2_with fail
  go_region
  go_wp2_with fail
  have BW : Hid (Below w1.heap.size w1 (w1.alloc (.cells #[.int .i64 (x1 : Int), .int .i64 ((x2 : Int) - 1), .slice none 0 0] 42)).drew) := ((Below.refl _ _).alloc (Nat.le_refl _) _).drew
  have XW : Hid (Box (w1.alloc (.cells #[.int .i64 (x1 : Int), .int .i64 ((x2 : Int) - 1), .slice none 0 0] 42)).drew w1.heap.size [.int .i64 (x1 : Int), .int .i64 ((x2 : Int) - 1), .slice none 0 0]) := Box.new (w := w1) rfl
  clear e1 e2 e1' e2'
  go_loopw [41] (fun iv wr => ∃ (k : Nat) (u : Value), k ≤ m ∧ iv = .int .i64 (k : Int) ∧ Hid (Below w1.heap.size w1 wr) ∧ Hid (Box wr w1.heap.size [.int .i64 (x1 : Int), .int .i64 ((x2 : Int) - 1), u]) ∧ Hid (wr.ownsRow (w1.heap.size + 1) 122 3 u k (cellsSn ((l.map snapOf).take k))) ∧ Hid (∀ f ∈ l.take k, ¬ f.size < 3)) (fun i _ => m - (intOf i).toNat)
  case atStart => exact ⟨0, _, by omega, rfl, BW.out, XW.out, World.ownsRow_nil _ _ _ _, fun f hf => by simp at hf⟩
  case round =>
    clear BW XW
    obtain ⟨k, u, hk, rfl, hb, hx, ho, hg⟩ := hrel
    obtain ⟨ua, uc, rfl, _, _⟩ := own_src ho.out
    by_cases hlt : k < m
    · have hki : (k : Int) < (m : Int) := by omega
      obtain ⟨lb, lo, f, rfl, fc, hf⟩ := srcS (S1.out.below hb.out) (i := k) (by rw [HM.out]; exact hlt)
      have HF : Hid (l[k]? = some f) := by
        show _ = _
        have h9 := hf.out
        rw [List.getD_eq_getElem?_getD, List.getElem?_eq_getElem (by rw [HM.out]; exact hlt)] at h9
        rw [List.getElem?_eq_getElem (by rw [HM.out]; exact hlt)]
        exact congrArg some h9
      have BT : Hid (Below w.heap.size w wr) := B1.out.trans (hb.out.mono (by have := Z1.out; omega))
      by_cases t3 : (f.size : Int) < 3
      · have F : Hid (superA B = none) := by
          show _ = none
          unfold superA
          rw [if_neg NF.out, RF.out, if_neg (by simp), if_pos ⟨f, List.mem_of_getElem? HF.out, by omega⟩]
        have X9 : Box wr w.heap.size [.int .i64 0, .int .i64 0, .slice none 0 0] := X1.out.below hb.out
        obtain ⟨p0, f0⟩ := X9 0 _ rfl
        obtain ⟨p1, f1⟩ := (X9.set 0 (.int .i64 0)) 1 _ rfl
        obtain ⟨p2, f2⟩ := ((X9.set 0 (.int .i64 0)).set 1 (.int .i64 0)) 2 _ rfl
        have X3 := ((X9.set 0 (.int .i64 0)).set 1 (.int .i64 0)).set 2 (.slice none 0 0)
        obtain ⟨r0, _⟩ := X3 0 _ rfl
        obtain ⟨r1, _⟩ := X3 1 _ rfl
        obtain ⟨r2, _⟩ := X3 2 _ rfl
        clear X3 X9
        have B3 : Hid (Below w.heap.size w (((wr.setCell ⟨w.heap.size, 0, none⟩ (.int .i64 0)).setCell ⟨w.heap.size, 1, none⟩ (.int .i64 0)).setCell ⟨w.heap.size, 2, none⟩ (.slice none 0 0))) := ((BT.out.setCell (Nat.le_refl _) _).setCell (Nat.le_refl _) _).setCell (Nat.le_refl _) _
        go_wp2_with fail
        exact bodyPost_ret (v := .tuple #[.agg #[.int .i64 0, .int .i64 0, .slice none 0 0], .bool false]) (by simp [results, Tryz.results156, go_sem, r0, r1, r2]) rfl ⟨.inl ⟨F.out, rfl⟩, B3.out⟩
      · obtain ⟨y0, hy0⟩ : ∃ y, (f[0]'(by omega)).toNat = y := ⟨_, rfl⟩
        obtain ⟨y1, hy1⟩ : ∃ y, (f[1]'(by omega)).toNat = y := ⟨_, rfl⟩
        obtain ⟨y2, hy2⟩ : ∃ y, (f[2]'(by omega)).toNat = y := ⟨_, rfl⟩
        have hy08 : y0 < 256 := by rw [← hy0]; exact UInt8.toNat_lt _
        have hy18 : y1 < 256 := by rw [← hy1]; exact UInt8.toNat_lt _
        have hy28 : y2 < 256 := by rw [← hy2]; exact UInt8.toNat_lt _
        obtain ⟨tk, htk⟩ : ∃ s : Nat, y1 * 256 + y2 = s := ⟨_, rfl⟩
        have hor : bits BinOp.or IntKind.i64 ((y1 : Int) * 256) (y2 : Int) = (tk : Int) := by rw [← htk]; exact or_two y1 y2 hy18 hy28
        have SN0 : Hid (snapOf f = (f.extract 3 f.size, (y0 : Int) - 1, (tk : Int))) := by
          show _ = _
          unfold snapOf
          rw [bytesOf_get f 0 (by omega), bytesOf_get f 1 (by omega), bytesOf_get f 2 (by omega), hy0, hy1, hy2, htk]
        have hf0 : 0 < f.size := by omega
        have hwr1 : IntKind.i64.wrap (y0 : Int) = (y0 : Int) := by rw [IntKind.wrap_i64]; omega
        have hwr2 : IntKind.i64.wrap ((y0 : Int) - 1) = (y0 : Int) - 1 := by rw [IntKind.wrap_i64]; omega
        have hf1 : (1 : Int) < (f.size : Int) := by omega
        have hf2 : (2 : Int) < (f.size : Int) := by omega
        have cut3 : ∀ W, (Instr.slice 9 (.string f) (some (.int .i64 3)) none none).run Tryz.prog W = .ok (.string (f.extract 3 f.size)) W := fun W => by
          have h9 := run_slice_string_l (P := Tryz.prog) W 9 f Tryz.underlying9 .i64 3 (by omega) (by omega)
          exact h9
        obtain ⟨g, hg3⟩ : ∃ g, f.extract 3 f.size = g := ⟨_, rfl⟩
        rw [hg3] at cut3
        rw [hg3] at SN0
        have NX : Hid ((l.map snapOf).take (k + 1) = (l.map snapOf).take k ++ [(g, (y0 : Int) - 1, (tk : Int))]) := by
          show _ = _
          rw [List.take_add_one, List.getElem?_map, HF.out, Option.map_some, SN0.out]
          rfl
        have GN : Hid (∀ f ∈ l.take (k + 1), ¬ f.size < 3) := fun f' hf' => by
          rw [List.take_add_one, HF.out, List.mem_append] at hf'
          rcases hf' with h9 | h9
          · exact hg.out f' h9
          · simp at h9; subst h9; omega
        have FW : Hid (∀ N W2, wr.drewN N = W2 → Below w1.heap.size w1 W2 ∧ Box W2 w1.heap.size [.int .i64 (x1 : Int), .int .i64 ((x2 : Int) - 1), .slice ua k uc] ∧ W2.ownsRow (w1.heap.size + 1) 122 3 (.slice ua k uc) k (cellsSn ((l.map snapOf).take k))) := fun N W2 e => by subst e; exact ⟨Below.drewN' hb.out _, hx.out, ho.out⟩
        clear htk hg3
        go_wp2_with fail
        go_quiet (fail)
        go_wp2_with fail
        generalize hW : World.drewN wr _ = W2
        obtain ⟨b2, x2b, o2⟩ := FW.out _ _ hW
        have BB : Hid (Below w1.heap.size w1 W2) := b2
        have XB : Hid (Box W2 w1.heap.size [.int .i64 (x1 : Int), .int .i64 ((x2 : Int) - 1), .slice ua k uc]) := x2b
        have OB : Hid (W2.ownsRow (w1.heap.size + 1) 122 3 (.slice ua k uc) k (cellsSn ((l.map snapOf).take k))) := o2
        have ZB : Hid (w1.heap.size + 1 ≤ W2.heap.size) := World.block_lt_of_cell? _ _ (x2b 0 _ rfl).1
        clear hW b2 x2b o2 FW hb hx ho fc
        obtain ⟨e2, _⟩ := XB.out 2 _ rfl
        have XA : Hid (Box (W2.alloc (.cells #[.string g, .int .i64 ((y0 : Int) - 1), .int .i64 (tk : Int)] 122)) w1.heap.size [.int .i64 (x1 : Int), .int .i64 ((x2 : Int) - 1), .slice ua k uc]) := XB.out.old _
        obtain ⟨e2', _⟩ := XA.out 2 _ rfl
        have RW : Hid ((W2.alloc (.cells #[.string g, .int .i64 ((y0 : Int) - 1), .int .i64 (tk : Int)] 122)).drew.ownsRow (w1.heap.size + 1) 122 3 (.slice ua k uc) k (cellsSn ((l.map snapOf).take k))) := OB.out.alloc _
        have BS : Hid (w1.heap.size + 1 ≤ (W2.alloc (.cells #[.string g, .int .i64 ((y0 : Int) - 1), .int .i64 (tk : Int)] 122)).drew.heap.size) := le_alloc ZB.out _
        have RLT : Hid (∀ g, Value.ownBlock (.slice ua k uc) = some g → w1.heap.size + 1 ≤ g ∧ g < W2.heap.size) := fun g e => OB.out.lt g e
        go_region_law (refine step_append_src rfl (.tmp 58) (.tmp 67) 40 rfl (w1.heap.size + 1) 122 (.agg #[.string ⟨#[]⟩, .int .i64 0, .int .i64 0]) 3 32 Tryz.underlying40 infoSn rfl (by decide) (by decide) (.slice ua k uc) k (cellsSn ((l.map snapOf).take k)) (by simp [Act.eval]) RW.out ⟨W2.heap.size, 0, none⟩ 1 1 (cellsSn [(g, (y0 : Int) - 1, (tk : Int))]) (by simp [Act.eval]) rfl (show Src (W2.alloc (.cells #[.string g, .int .i64 ((y0 : Int) - 1), .int .i64 (tk : Int)] 122)) _ _ from src_oneSn rfl) (cellsSn_one _) (by omega) (by decide) BS.out ?_; intro v' w' hown hgrow hnew; obtain ⟨b', d', rfl, _, _⟩ := own_src hown; have XG : Hid (Box w' w1.heap.size [.int .i64 (x1 : Int), .int .i64 ((x2 : Int) - 1), .slice ua k uc]) := (Box.grown (w := (W2.alloc (.cells #[.string g, .int .i64 ((y0 : Int) - 1), .int .i64 (tk : Int)] 122)).drew) XA.out hgrow (fun e => by have := (RLT.out _ e).1; omega)); obtain ⟨pw, pf⟩ := XG.out 2 _ rfl; have OG : Hid (w'.ownsRow (w1.heap.size + 1) 122 3 (.slice b' (k + 1) d') (k + 1) (cellsSn ((l.map snapOf).take (k + 1)))) := (by rw [NX.out, cellsSn_append]; exact hown); have BG : Hid (Below w1.heap.size w1 w') := ((BB.out.alloc BB.out.size _).drew.grown hgrow (le_alloc BB.out.size _) (fun g e => by have := (RLT.out g e).1; omega)); clear hown hgrow hnew)
        all_goals go_wp2_with fail
        all_goals exact ⟨⟨k + 1, _, by omega, by go_num, BG.out.setCell (Nat.le_refl _) _, XG.out.set 2 _, own_setLow OG.out (by dsimp only; omega) _, GN.out⟩, by simp [intOf]; omega⟩
    · have hkm : k = m := by omega
      have FO : Hid (wr.ownsRow (w1.heap.size + 1) 122 3 (.slice ua k uc) (l.map snapOf).length (cellsSn (l.map snapOf))) := by
        have h9 := ho.out
        rw [List.take_of_length_le (by rw [List.length_map, HM.out]; omega)] at h9
        rw [List.length_map, HM.out, ← hkm]
        exact h9
      have F : Hid (superA B = some ⟨(x1 : Int), (x2 : Int) - 1, l.map snapOf⟩) := by
        show _ = _
        unfold superA
        rw [if_neg NF.out, RF.out, if_neg (by simp), HX.out.1, HX.out.2, if_neg]
        rintro ⟨f, hf, h9⟩
        refine hg.out f ?_ h9
        rw [List.take_of_length_le (by rw [HM.out]; omega)]
        exact hf
      have BT : Hid (Below w.heap.size w wr) := B1.out.trans (hb.out.mono (by have := Z1.out; omega))
      have EL : Hid ((l.map snapOf).length = k) := by show _ = _; rw [List.length_map, HM.out, hkm]
      have hkm2 : ¬ (k : Int) < (m : Int) := by omega
      have X9 : Box wr w.heap.size [.int .i64 0, .int .i64 0, .slice none 0 0] := X1.out.below hb.out
      obtain ⟨s0, _⟩ := hx.out 0 _ rfl
      obtain ⟨s1, _⟩ := hx.out 1 _ rfl
      obtain ⟨s2, _⟩ := hx.out 2 _ rfl
      obtain ⟨p0, f0⟩ := X9 0 _ rfl
      obtain ⟨p1, f1⟩ := (X9.set 0 (.int .i64 (x1 : Int))) 1 _ rfl
      obtain ⟨p2, f2⟩ := ((X9.set 0 (.int .i64 (x1 : Int))).set 1 (.int .i64 ((x2 : Int) - 1))) 2 _ rfl
      have X3 := ((X9.set 0 (.int .i64 (x1 : Int))).set 1 (.int .i64 ((x2 : Int) - 1))).set 2 (.slice ua k uc)
      obtain ⟨r0, _⟩ := X3 0 _ rfl
      obtain ⟨r1, _⟩ := X3 1 _ rfl
      obtain ⟨r2, _⟩ := X3 2 _ rfl
      clear X3 X9 hkm
      have BE : Hid (Below w.heap.size w (((wr.setCell ⟨w.heap.size, 0, none⟩ (.int .i64 (x1 : Int))).setCell ⟨w.heap.size, 1, none⟩ (.int .i64 ((x2 : Int) - 1))).setCell ⟨w.heap.size, 2, none⟩ (.slice ua k uc))) := ((BT.out.setCell (Nat.le_refl _) _).setCell (Nat.le_refl _) _).setCell (Nat.le_refl _) _
      have OE : Hid (OwnsR (((wr.setCell ⟨w.heap.size, 0, none⟩ (.int .i64 (x1 : Int))).setCell ⟨w.heap.size, 1, none⟩ (.int .i64 ((x2 : Int) - 1))).setCell ⟨w.heap.size, 2, none⟩ (.slice ua k uc)) 122 3 w.heap.size (((wr.setCell ⟨w.heap.size, 0, none⟩ (.int .i64 (x1 : Int))).setCell ⟨w.heap.size, 1, none⟩ (.int .i64 ((x2 : Int) - 1))).setCell ⟨w.heap.size, 2, none⟩ (.slice ua k uc)).heap.size (.slice ua k uc) (l.map snapOf).length (cellsSn (l.map snapOf))) := OwnsR.mk (own_mono (own_setLow (own_setLow (own_setLow FO.out (by have := Z1.out; dsimp only; omega) _) (by have := Z1.out; dsimp only; omega) _) (by have := Z1.out; dsimp only; omega) _) (by have := Z1.out; omega)) (Nat.le_refl _)
      go_wp2_with fail
      exact bodyPost_ret (v := .tuple #[.agg #[.int .i64 (x1 : Int), .int .i64 ((x2 : Int) - 1), .slice ua k uc], .bool true]) (by simp [results, Tryz.results156, go_sem, r0, r1, r2]) rfl ⟨.inr ⟨_, F.out, _, rfl, _, rfl, OE.out⟩, BE.out⟩
end Go.Proofs.YtnnimocaanofjaaGreatDoor
