
/-
  CountRefs of both. By an AI agent.
-/
import Derived.Test.YtmpaophegdeokaaTrb
namespace Go.Proofs.Ytmpaophegdeokaa
open Go.ChangeShapes Go.WideShapes Go.ChangeAt Go.RowKit Go.Deep
set_option linter.unusedVariables false
set_option maxRecDepth 100000
set_option maxHeartbeats 2000000 in
theorem l03Refs (v : Value) (H : List NM) (ra ga : Option Addr) (n rc gc : Nat) (L : List Int) (A : List Bool) (w : World) (h : ReadsH w v H) (hL : L.length = n) (hn : n ≤ 20) (hs : Src w ra (cellsI L)) (hA : A.length = 50) (hg : Src w ga (A.map Value.bool)) (hno : nodS H A) (hrt : ∀ r ∈ L, r = -1 ∨ pageB r = true) :
    Calls Try.prog 103 #[v, .slice ra n rc, .slice ga 50 gc] w fun e w' => ∃ u, e = .returned u ∧ w'.ownsRow w.heap.size 3 1 u 50 (cellsI (cntI (kT H A 50 ++ rT L n))) ∧ Below w.heap.size w w' := by
  obtain ⟨a, c, rfl, hr⟩ := h
  have HR : Hid (ReadsHL w a H) := hr
  have HL : Hid (L.length = n) := hL
  have HC : Hid (Src w ra (cellsI L)) := hs
  have HG : Hid (Src w ga (A.map Value.bool)) := hg
  have HA : Hid (A.length = 50 ∧ nodS H A ∧ ∀ r ∈ L, r = -1 ∨ pageB r = true) := ⟨hA, hno, hrt⟩
  have hmk := run_make_I50
  clear hr hL hs hA hg hno hrt
  go_enter Try.func103, Try.ntmps103
  go_wp2_with fail
  clear hmk
  have O0 : Hid (World.ownsRow ((w.alloc (.cells #[.slice a H.length c] 72)).alloc (.cells (madeCells #[.int .i64 0] 50) 3)) w.heap.size 3 1 (.slice (some ⟨w.heap.size + 1, 0, none⟩) 50 50) 50 (cellsI (cntI (kT H A 0)))) := by
    have := own_zero (w.alloc (.cells #[.slice a H.length c] 72)) w.heap.size (by simp)
    rw [World.size_alloc] at this
    exact this
  go_loopw [8] (fun iv wr => ∃ i : Nat, i ≤ 50 ∧ iv = .int .i64 i ∧ Hid (Below w.heap.size w wr) ∧ Hid (Box wr w.heap.size [.slice a H.length c]) ∧ Hid (wr.ownsRow w.heap.size 3 1 (.slice (some ⟨w.heap.size + 1, 0, none⟩) 50 50) 50 (cellsI (cntI (kT H A i))))) (fun i _ => 50 - (intOf i).toNat)
  case atStart => exact ⟨0, by omega, rfl, ((Below.refl _ _).alloc (Nat.le_refl _) _).alloc (by simp) _, (Box.new rfl).old _, O0.out⟩
  case round =>
    obtain ⟨i, hi, rfl, hb, hx, ho⟩ := hrel
    by_cases hlt : i < 50
    · have hii : (i : Int) < 50 := by omega
      have hi0 : (0 : Int) ≤ (i : Int) := by omega
      obtain ⟨gb, go_, rfl, hgc⟩ : ∃ b o, ga = some ⟨b, o, none⟩ ∧ ∀ w1, Below w.heap.size w w1 → w1.cell? ⟨b, o + i, none⟩ = some (.bool (A.getD i false)) := by
        rcases HG.out with h9 | ⟨b, o, rfl, hc⟩
        · have h8 := HA.out.1
          simp at h9
          rw [h9] at h8
          cases h8
        · refine ⟨b, o, rfl, fun w1 hb9 => ?_⟩
          have h8 := hc i (by simp [HA.out.1]; exact hlt)
          rw [getD_some (map_at (by rw [HA.out.1]; exact hlt))] at h8
          exact (hb9.cell (p := ⟨b, o + i, none⟩) (World.block_lt_of_cell? _ _ h8)).trans h8
      obtain ⟨ba, hba⟩ : ∃ b, A.getD i false = b := ⟨_, rfl⟩
      rw [hba] at hgc
      have GC : Hid (∀ w1, Below w.heap.size w w1 → w1.cell? ⟨gb, go_ + i, none⟩ = some (.bool ba)) := hgc
      have HBA : Hid (A.getD i false = ba) := hba
      clear hgc hba
      cases ba with
      | false =>
        have KN : Hid (kT H A (i + 1) = kT H A i) := by show kT H A (i + 1) = _; rw [kT, HBA.out]; simp
        go_wp2_with fail
        go_loopw [9] (fun kv wr => kv = .int .i64 0 ∧ Hid (Below w.heap.size w wr) ∧ Hid (Box wr w.heap.size [.slice a H.length c]) ∧ Hid (wr.ownsRow w.heap.size 3 1 (.slice (some ⟨w.heap.size + 1, 0, none⟩) 50 50) 50 (cellsI (cntI (kT H A i))))) (fun i _ => 0)
        case atStart => exact ⟨rfl, hb.out, hx.out, ho.out⟩
        case round =>
          obtain ⟨rfl, hb2, hx2, ho2⟩ := hrel
          have g1 := GC.out _ hb2.out
          go_wp2_with fail
          exact ⟨⟨i + 1, by omega, by go_num, hb2.out, hx2.out, by rw [KN.out]; exact ho2.out⟩, by simp [intOf]; omega⟩
      | true =>
        have HIL : Hid (i < H.length) := nod_lt HA.out.2.1 HBA.out
        obtain ⟨hbk, hof, D, a1, x1, a2, x2, a3, x3, rfl, r0, r1, r2, r3, hD, hR⟩ := srcN HR.out (i := i) HIL.out
        have CELL : Hid (∀ w1, Below w.heap.size w w1 → w1.cell? ⟨hbk, hof + i * 4 + 3, none⟩ = some (.slice a3 D.K.length x3)) := fun w1 hb9 => (hb9.cell (p := ⟨hbk, hof + i * 4 + 3, none⟩) (World.block_lt_of_cell? _ _ r3)).trans r3
        have KD : Hid (D.K.length ≤ 4 ∧ ∀ x ∈ D.K, pageB x = true) := by
          have h9 := HA.out.2.1 i HBA.out
          rw [hD.out] at h9
          exact ⟨bad_few h9, ok_kids h9⟩
        have KS : Hid (Src w a3 (cellsI D.K)) := by
          obtain ⟨_, _, _, _, a3', x3', e9, _, _, s3⟩ := hR.out
          cases e9
          exact s3
        have KN : Hid (kT H A (i + 1) = kT H A i ++ D.K) := by show kT H A (i + 1) = _; rw [kT, HBA.out, if_pos rfl, hD.out]
        have KL : Hid ((kT H A i).length ≤ 4 * i) := kT_le HA.out.2.1 i
        have hil : (i : Int) < (H.length : Int) := by have := HIL.out; omega
        obtain ⟨m, hm⟩ : ∃ m, D.K.length = m := ⟨_, rfl⟩
        rw [hm] at CELL
        have HM : Hid (D.K.length = m) := hm
        have hm4 : m ≤ 4 := by rw [← hm]; exact KD.out.1
        clear r0 r1 r2 r3 hm
        go_wp2_with fail
        go_loopw [9] (fun kv wr => ∃ k : Nat, k ≤ m ∧ kv = .int .i64 k ∧ Hid (Below w.heap.size w wr) ∧ Hid (Box wr w.heap.size [.slice (some ⟨hbk, hof, none⟩) H.length c]) ∧ Hid (wr.ownsRow w.heap.size 3 1 (.slice (some ⟨w.heap.size + 1, 0, none⟩) 50 50) 50 (cellsI (cntI (kT H A i ++ D.K.take k))))) (fun i _ => m - (intOf i).toNat)
        case atStart => exact ⟨0, by omega, rfl, hb.out, hx.out, by show World.ownsRow _ _ _ _ _ _ (cellsI (cntI (kT H A i ++ []))); rw [List.append_nil]; exact ho.out⟩
        case round =>
          obtain ⟨k, hk, rfl, hb2, hx2, ho2⟩ := hrel
          have g1 := GC.out _ hb2.out
          have g3 := CELL.out _ hb2.out
          obtain ⟨p0, _⟩ := hx2.out 0 _ rfl
          by_cases hlt2 : k < m
          · have hkk : (k : Int) < (m : Int) := by omega
            have hk0 : (0 : Int) ≤ (k : Int) := by omega
            obtain ⟨kb, ko, x, rfl, hkc, hxk⟩ := srcI (KS.out.below hb2.out) (i := k) (by rw [HM.out]; exact hlt2)
            have hpx : pageB x = true := by
              rw [← hxk.out]
              refine KD.out.2 _ ?_
              rw [List.getD_eq_getElem?_getD, List.getElem?_eq_getElem (by rw [HM.out]; exact hlt2)]
              exact List.getElem_mem _
            obtain ⟨hx0, hx1⟩ := page_nat hpx
            obtain ⟨j, rfl⟩ : ∃ j : Nat, x = (j : Int) := ⟨x.toNat, by omega⟩
            have hx50 : j < 50 := by simpa using hx1
            have hj0 : (0 : Int) ≤ (j : Int) := by omega
            have hj1 : (j : Int) < 50 := by omega
            have TN : Hid (kT H A i ++ D.K.take k ++ [(j : Int)] = kT H A i ++ D.K.take (k + 1)) := by
              show _ = _
              rw [List.append_assoc, List.take_succ_eq_append_getElem (by rw [HM.out]; exact hlt2), ← hxk.out, List.getD_eq_getElem?_getD, List.getElem?_eq_getElem (by rw [HM.out]; exact hlt2)]
              rfl
            have LT : Hid ((kT H A i ++ D.K.take k).length ≤ 1000) := by
              show _ ≤ 1000
              rw [List.length_append, List.length_take]
              have := KL.out
              omega
            obtain ⟨y1, y1f, y2⟩ := bump (x := j) ho2.out hx50
            obtain ⟨cc, hcc⟩ : ∃ cc, List.count ((j : Nat) : Int) (kT H A i ++ D.K.take k) = cc := ⟨_, rfl⟩
            have hcl : cc ≤ 1000 := by rw [← hcc]; exact Nat.le_trans List.count_le_length LT.out
            rw [hcc] at y1 y2
            have N1 : Hid (Below w.heap.size w (wr.setCell ⟨w.heap.size + 1, j, none⟩ (.int .i64 ((cc : Int) + 1)))) := hb2.out.setCell (by show w.heap.size ≤ w.heap.size + 1; omega) _
            have N2 : Hid (Box (wr.setCell ⟨w.heap.size + 1, j, none⟩ (.int .i64 ((cc : Int) + 1))) w.heap.size [.slice (some ⟨hbk, hof, none⟩) H.length c]) := hx2.out.other _ (by dsimp only; omega) _
            have N3 : Hid (World.ownsRow (wr.setCell ⟨w.heap.size + 1, j, none⟩ (.int .i64 ((cc : Int) + 1))) w.heap.size 3 1 (.slice (some ⟨w.heap.size + 1, 0, none⟩) 50 50) 50 (cellsI (cntI (kT H A i ++ D.K.take (k + 1))))) := by
              have h9 := y2
              rw [TN.out] at h9
              exact h9
            clear y2 hcc
            clear hpx hx0 hx1 hb2 hx2 ho2
            go_wp2_with fail
            exact ⟨⟨k + 1, by omega, by go_num, N1.out, N2.out, N3.out⟩, by simp [intOf]; omega⟩
          · have FF : Hid (wr.ownsRow w.heap.size 3 1 (.slice (some ⟨w.heap.size + 1, 0, none⟩) 50 50) 50 (cellsI (cntI (kT H A (i + 1))))) := by
              have h9 := ho2.out
              rw [List.take_of_length_le (by rw [HM.out]; omega)] at h9
              rw [KN.out]
              exact h9
            go_wp2_with fail
            exact ⟨⟨i + 1, by omega, by go_num, hb2.out, hx2.out, FF.out⟩, by simp [intOf]; omega⟩
    · have hi50 : i = 50 := by omega
      subst hi50
      have KL : Hid ((kT H A 50).length ≤ 200) := kT_le HA.out.2.1 50
      go_wp2_with fail
      go_loopw [10] (fun iv wr => ∃ i : Nat, i ≤ n ∧ iv = .int .i64 i ∧ Hid (Below w.heap.size w wr) ∧ Hid (Box wr w.heap.size [.slice a H.length c]) ∧ Hid (wr.ownsRow w.heap.size 3 1 (.slice (some ⟨w.heap.size + 1, 0, none⟩) 50 50) 50 (cellsI (cntI (kT H A 50 ++ rT L i))))) (fun i _ => n - (intOf i).toNat)
      case atStart => exact ⟨0, by omega, rfl, hb.out, hx.out, by show World.ownsRow _ _ _ _ _ _ (cellsI (cntI (kT H A 50 ++ []))); rw [List.append_nil]; exact ho.out⟩
      case round =>
        obtain ⟨i, hi, rfl, hb2, hx2, ho2⟩ := hrel
        by_cases hlt2 : i < n
        · have hii : (i : Int) < (n : Int) := by omega
          have hi0 : (0 : Int) ≤ (i : Int) := by omega
          have HIL : Hid (i < L.length) := by show i < L.length; rw [HL.out]; exact hlt2
          obtain ⟨kb, ko, x, rfl, hkc, hxk⟩ := srcI (HC.out.below hb2.out) (i := i) HIL.out
          have hpx : x = -1 ∨ pageB x = true := by
            rw [← hxk.out]
            refine HA.out.2.2 _ ?_
            rw [List.getD_eq_getElem?_getD, List.getElem?_eq_getElem HIL.out]
            exact List.getElem_mem _
          rcases hpx with rfl | hpx
          · have RN : Hid (rT L (i + 1) = rT L i) := rT_no HIL.out (by rw [hxk.out]; omega)
            go_wp2_with fail
            exact ⟨⟨i + 1, by omega, by go_num, hb2.out, hx2.out, by rw [RN.out]; exact ho2.out⟩, by simp [intOf]; omega⟩
          · obtain ⟨hx0, hx1⟩ := page_nat hpx
            obtain ⟨j, rfl⟩ : ∃ j : Nat, x = (j : Int) := ⟨x.toNat, by omega⟩
            have hx50 : j < 50 := by simpa using hx1
            have hj0 : (0 : Int) ≤ (j : Int) := by omega
            have hj1 : (j : Int) < 50 := by omega
            have TN : Hid (kT H A 50 ++ rT L i ++ [(j : Int)] = kT H A 50 ++ rT L (i + 1)) := by
              show _ = _
              rw [List.append_assoc, rT_yes HIL.out (by rw [hxk.out]; omega), hxk.out]
            have LT : Hid ((kT H A 50 ++ rT L i).length ≤ 1000) := by
              show _ ≤ 1000
              rw [List.length_append]
              have := KL.out
              have := rT_le L i
              omega
            obtain ⟨y1, y1f, y2⟩ := bump (x := j) ho2.out hx50
            obtain ⟨cc, hcc⟩ : ∃ cc, List.count ((j : Nat) : Int) (kT H A 50 ++ rT L i) = cc := ⟨_, rfl⟩
            have hcl : cc ≤ 1000 := by rw [← hcc]; exact Nat.le_trans List.count_le_length LT.out
            rw [hcc] at y1 y2
            have N1 : Hid (Below w.heap.size w (wr.setCell ⟨w.heap.size + 1, j, none⟩ (.int .i64 ((cc : Int) + 1)))) := hb2.out.setCell (by show w.heap.size ≤ w.heap.size + 1; omega) _
            have N2 : Hid (Box (wr.setCell ⟨w.heap.size + 1, j, none⟩ (.int .i64 ((cc : Int) + 1))) w.heap.size [.slice a H.length c]) := hx2.out.other _ (by dsimp only; omega) _
            have N3 : Hid (World.ownsRow (wr.setCell ⟨w.heap.size + 1, j, none⟩ (.int .i64 ((cc : Int) + 1))) w.heap.size 3 1 (.slice (some ⟨w.heap.size + 1, 0, none⟩) 50 50) 50 (cellsI (cntI (kT H A 50 ++ rT L (i + 1))))) := by
              have h9 := y2
              rw [TN.out] at h9
              exact h9
            clear y2 hcc
            clear hpx hx0 hx1 hb2 hx2 ho2
            go_wp2_with fail
            exact ⟨⟨i + 1, by omega, by go_num, N1.out, N2.out, N3.out⟩, by simp [intOf]; omega⟩
        · have hin : i = n := by omega
          subst hin
          go_wp2_with fail
          go_ret
          exact ⟨_, rfl, ho2.out, hb2.out⟩
end Go.Proofs.Ytmpaophegdeokaa
