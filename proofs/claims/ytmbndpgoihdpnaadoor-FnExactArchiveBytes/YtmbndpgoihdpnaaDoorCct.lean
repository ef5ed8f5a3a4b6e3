
/-
  slices.Grow of nothing and slices.Concat of rows of bytes. By an AI agent.
-/
import Derived.Test.YtmbndpgoihdpnaaDoorBkm
import Derived.Test.YtmbndpgoihdpnaaDoorCuts
import Derived.Lib.AppendZeros
namespace Go.Proofs.YtmbndpgoihdpnaaDoor
open Go.ChangeShapes Go.WideShapes Go.ChangeAt Go.RowKit Go.Deep
set_option linter.unusedVariables false
set_option linter.unusedSimpArgs false
set_option maxRecDepth 100000

set_option maxHeartbeats 1000000 in
theorem slicesGrow (n : Nat) (w : World) (h0 : 0 < n) (hn : n ≤ 1048576) :
    Calls Tryd.prog 72 #[.slice none 0 0, .int .i64 (n : Int)] w fun e w' => ∃ v, e = .returned v ∧ w'.ownsRow w.heap.size 5 1 v 0 (cellsB []) ∧ Below w.heap.size w w' := by
  obtain ⟨i5, hi5, hz5⟩ := Option.map_eq_some_iff.1 infoB
  simp only [Prod.mk.injEq] at hz5
  obtain ⟨cp, hcp⟩ : ∃ c, grownCap w n 0 5 = c := ⟨_, rfl⟩
  have CP : Hid (n ≤ cp ∧ cp ≤ maxLen) := ⟨by rw [← hcp]; exact grownCap_ge _ _ _ _, by rw [← hcp]; exact grownCap_le_maxLen _ _ _ _ (by unfold maxLen; omega)⟩
  have RN := Lib.run_append_nil_zeros (P := Tryd.prog) w 34 3 34 5 i5 (.int .u8 0) .i64 .i64 Tryd.underlying34 Tryd.underlying3 hi5 hz5.1 n h0 (by rw [hz5.2.1]; decide) (by omega) (by rw [hz5.2.2]; omega)
  rw [hcp] at RN
  obtain ⟨cs, hcs⟩ : ∃ cs, Builtin.zeroCells (Value.int .u8 0).cells n ++ Builtin.zeroCells (Value.int .u8 0).cells (cp - n) = cs := ⟨_, rfl⟩
  have CS : Hid (cs.size = cp) := by
    show _ = _
    rw [← hcs]
    have h9 := CP.out.1
    simp [size_zeroCells, Value.cells]
    omega
  rw [hcs] at RN
  have RH : Hid ((Builtin.append_ #[34, 3] 34 #[.slice none 0 0, .int .i64 n]).run Tryd.prog w = .ok (.slice (some ⟨w.heap.size, 0, none⟩) n cp) (w.drew.alloc (.cells cs 5))) := RN
  have hn0 : (0 : Int) < (n : Int) := by omega
  have hnn : ¬ (n : Int) < 0 := by omega
  have CUT : ∀ W, (Instr.slice 34 (.slice (some ⟨w.heap.size, 0, none⟩) n cp) none (some (.int .i64 0)) none).run Tryd.prog W = .ok (.slice (some ⟨w.heap.size, 0, none⟩) 0 cp) W := fun W => cut_h (P := Tryd.prog) (e := 5) Tryd.underlying34 (fun w => Tryd.sizeOf5 w) (some ⟨w.heap.size, 0, none⟩) n cp 0 (by omega) W
  have OW : Hid ((w.drew.alloc (.cells cs 5)).ownsRow w.heap.size 5 1 (.slice (some ⟨w.heap.size, 0, none⟩) 0 cp) 0 (cellsB [])) := by
    refine ⟨rfl, .inr ⟨w.heap.size, cp, cs, rfl, Nat.le_refl _, ?_, Nat.zero_le _, CP.out.2, by rw [CS.out]; omega, by simp [cellsB]⟩⟩
    exact heap_alloc_new w.drew _
  have BW : Hid (Below w.heap.size w (w.drew.alloc (.cells cs 5))) := (Below.refl w.heap.size w).drew.alloc (Nat.le_refl _) _
  clear RN hcs hcp hi5 hz5
  go_enter Tryd.func72, Tryd.ntmps72
  go_wp2_with (at_builtin; refine Lib.wpList_append_run _ rfl _ _ _ _ rfl _ _ rfl rfl _ _ RH.out ?_)
  go_wp2_with fail
  go_ret
  exact ⟨_, rfl, OW.out, BW.out⟩

/-- Rows of bytes, one behind the other. -/
def catB (Ls : Nat → List Nat) (k : Nat) : List Nat := (List.range k).flatMap Ls
theorem catB_snoc (Ls : Nat → List Nat) (k : Nat) : catB Ls (k + 1) = catB Ls k ++ Ls k := by unfold catB; rw [List.range_succ, List.flatMap_append]; simp
theorem catB_le (Ls : Nat → List Nat) (n k : Nat) (h : k ≤ n) : (catB Ls k).length ≤ (catB Ls n).length := by
  induction n with
  | zero => obtain rfl : k = 0 := by omega
            exact Nat.le_refl _
  | succ n ih =>
    by_cases e : k = n + 1
    · rw [e]; exact Nat.le_refl _
    · rw [catB_snoc, List.length_append]; have := ih (by omega); omega
set_option maxHeartbeats 2000000 in
theorem slicesConcat (sa : Option Addr) (n sc : Nat) (vs : List Value) (Ls : Nat → List Nat) (w : World) (hv : vs.length = n) (hn : n ≤ 100) (ht0 : 0 < (catB Ls n).length) (ht : (catB Ls n).length ≤ 1048576) (h : Src w sa vs)
    (hr : ∀ i, i < n → ∃ a c, vs.getD i undef = .slice a (Ls i).length c ∧ Src w a (cellsB (Ls i))) :
    Calls Tryd.prog 43 #[.slice sa n sc] w fun e w' => ∃ v, e = .returned v ∧ w'.ownsRow w.heap.size 5 1 v (catB Ls n).length (cellsB (catB Ls n)) ∧ Below w.heap.size w w' := by
  have HR : Hid (∀ i, i < n → ∃ b o a c, sa = some ⟨b, o, none⟩ ∧ (∀ W, Below w.heap.size w W → W.cell? ⟨b, o + i, none⟩ = some (.slice a (Ls i).length c) ∧ Src W a (cellsB (Ls i)))) := fun i hi => by
    obtain ⟨a, c, h1, h2⟩ := hr i hi
    rcases h with h | ⟨b, o, e, hc⟩
    · rw [h] at hv; simp at hv; omega
    · refine ⟨b, o, a, c, e, fun W hW => ⟨?_, h2.below hW⟩⟩
      have h3 := hc i (by omega)
      rw [h1] at h3
      exact (hW.cell (World.block_lt_of_cell? _ _ h3)).trans h3
  obtain ⟨T, hT⟩ : ∃ T, (catB Ls n).length = T := ⟨_, rfl⟩
  have HT : Hid ((catB Ls n).length = T) := hT
  have hT0 : 0 < T := by rw [← hT]; exact ht0
  have hT1 : T ≤ 1048576 := by rw [← hT]; exact ht
  clear h hr hv ht0 ht hT
  go_enter Tryd.func43, Tryd.ntmps43
  go_wp2_with fail
  go_loopw [3, 11] (fun s i wr => ∃ (k : Nat), k ≤ n ∧ i = .int .i64 k ∧ s = .int .i64 ((catB Ls k).length : Int) ∧ wr = w) (fun _ i _ => n - (RowKit.intOf i).toNat)
  case atStart => exact ⟨0, by omega, rfl, rfl, rfl⟩
  case round =>
    obtain ⟨k, hk, rfl, rfl, hw⟩ := hrel
    obtain rfl := hw.symm
    by_cases hlt : k < n
    · obtain ⟨b, o, a, c, rfl, hc⟩ := HR.out k hlt
      obtain ⟨q1, _⟩ := hc _ (Below.refl _ _)
      obtain ⟨l, hl⟩ : ∃ l, (Ls k).length = l := ⟨_, rfl⟩
      obtain ⟨t, htt⟩ : ∃ t, (catB Ls k).length = t := ⟨_, rfl⟩
      have h9 := catB_le Ls n (k + 1) (by omega)
      rw [catB_snoc, List.length_append, htt, hl, HT.out] at h9
      have SN : Hid ((catB Ls (k + 1)).length = t + l) := by show _ = _; rw [catB_snoc, List.length_append, htt, hl]
      rw [hl] at q1
      rw [htt]
      have hki : (k : Int) < (n : Int) := by omega
      have hk0 : (0 : Int) ≤ (k : Int) := by omega
      have hnt : ¬ ((t : Int) + (l : Int)) < 0 := by omega
      clear hc hl htt
      go_wp2_with fail
      exact ⟨⟨k + 1, by omega, by go_num, by rw [SN.out]; go_num, by first | rfl | trivial⟩, by simp [RowKit.intOf]; omega⟩
    · have hkn : k = n := by omega
      have TK : Hid ((catB Ls k).length = T) := by rw [hkn]; exact HT.out
      rw [TK.out]
      clear hkn
      go_wp2_with fail
      go_at_call 72
      refine (slicesGrow T _ hT0 hT1).mono ?_
      rintro e w1 ⟨v1, rfl, o1, hb1⟩
      obtain ⟨va, vc, rfl, _, _⟩ := own_src o1
      have O1 : Hid (w1.ownsRow w.heap.size 5 1 (.slice va 0 vc) 0 (cellsB [])) := o1
      have B1 : Hid (Below w.heap.size w w1) := hb1
      clear o1 hb1
      go_wp2_with fail
      go_loopw [6, 27] (fun v i wr => ∃ (k : Nat), k ≤ n ∧ i = .int .i64 k ∧ Hid (Below w.heap.size w wr) ∧ Hid (wr.ownsRow w.heap.size 5 1 v (catB Ls k).length (cellsB (catB Ls k)))) (fun _ i _ => n - (RowKit.intOf i).toNat)
      case atStart => exact ⟨0, by omega, rfl, B1.out, O1.out⟩
      case round =>
        obtain ⟨k2, hk2, rfl, hb, ho⟩ := hrel
        obtain ⟨ua, uc, rfl, _, _⟩ := own_src ho.out
        obtain ⟨t, htt⟩ : ∃ t, (catB Ls k2).length = t := ⟨_, rfl⟩
        have HO : Hid (wr.ownsRow w.heap.size 5 1 (.slice ua t uc) t (cellsB (catB Ls k2))) := by rw [← htt]; exact ho.out
        have MM : Hid ((catB Ls k2).length = t) := htt
        rw [htt]
        clear ho
        by_cases hlt2 : k2 < n
        · obtain ⟨b, o, a, c, rfl, hc⟩ := HR.out k2 hlt2
          obtain ⟨q1, q2⟩ := hc _ hb.out
          obtain ⟨l, hl⟩ : ∃ l, (Ls k2).length = l := ⟨_, rfl⟩
          have h9 := catB_le Ls n (k2 + 1) (by omega)
          rw [catB_snoc, List.length_append, htt, hl, HT.out] at h9
          have LL : Hid ((Ls k2).length = l) := hl
          have S2 : Hid (Src wr a (cellsB (Ls k2))) := q2
          rw [hl] at q1
          have hki : (k2 : Int) < (n : Int) := by omega
          have hk0 : (0 : Int) ≤ (k2 : Int) := by omega
          have hlt3 : Hid (∀ g, Value.ownBlock (.slice ua t uc) = some g → w.heap.size ≤ g) := fun g e => (HO.out.lt g e).1
          clear hc hl htt q2
          go_wp2_with (at_builtin; refine wpList_append_src _ rfl _ _ 34 rfl w.heap.size 5 (.int .u8 0) 1 1 Tryd.underlying34 infoB rfl (by decide) (by decide) _ t (cellsB (catB Ls k2)) rfl HO.out a l c (cellsB (Ls k2)) rfl (by rw [cellsB_length, LL.out]; omega) S2.out (cellsB_one _) (by omega) hb.out.size ?_)
          intro v3 w3 hown3 hgrow3
          have O3 : Hid (w3.ownsRow w.heap.size 5 1 v3 (catB Ls (k2 + 1)).length (cellsB (catB Ls (k2 + 1)))) := by rw [catB_snoc, cellsB_append, List.length_append, MM.out, LL.out]; exact hown3
          have B3 : Hid (Below w.heap.size w w3) := hb.out.grown hgrow3 hb.out.size hlt3.out
          clear hown3 hgrow3
          go_wp2_with fail
          exact ⟨⟨k2 + 1, by omega, by go_num, B3.out, O3.out⟩, by simp [RowKit.intOf]; omega⟩
        · have hkn : k2 = n := by omega
          have h8 : t = T := by rw [← MM.out, hkn]; exact HT.out
          have FO : Hid (wr.ownsRow w.heap.size 5 1 (.slice ua t uc) T (cellsB (catB Ls n))) := by
            have h9 := HO.out
            rw [hkn] at h9
            rw [← h8]
            exact h9
          clear h8
          clear hkn
          go_wp2_with fail
          go_ret
          exact ⟨.slice ua t uc, rfl, by rw [HT.out]; exact FO.out, hb.out⟩
end Go.Proofs.YtmbndpgoihdpnaaDoor
