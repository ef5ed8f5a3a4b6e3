
/-
  The contract of the program's written: the sectors behind some writes, in new memory. By an AI agent.
-/
import Derived.Test.YtpbodiaglgkkkaaWbs
namespace Go.Proofs.Ytpbodiaglgkkkaa
open Go.ChangeShapes Go.WideShapes Go.ChangeAt Go.RowKit Go.Deep
set_option linter.unusedVariables false

theorem Grp.setLow {w : World} {base LB n : Nat} {vs : List Value} {C : List (Int × ByteArray)} {a : Addr} (h : Grp w base LB n vs C) (ha : a.block < base) (u : Value) : Grp (w.setCell a u) base LB n vs C :=
  ⟨h.len, own_setLow h.lists ha u, fun j hj => own_setLow (h.row j hj) ha u, h.apart⟩
theorem cellsS_set (L : List ByteArray) (k : Nat) (y : ByteArray) : (cellsS L).set k (.string y) = cellsS (L.set k y) := by simp [cellsS, List.map_set]

set_option maxHeartbeats 2000000 in
theorem written (v : Value) (D : DM) (aq : Option Addr) (m cq : Nat) (Q : List (Int × ByteArray)) (w : World) (hs : smallD D) (hm : Q.length = m) (hm1 : m ≤ 500) (hok : ∀ p ∈ Q, okW D.S.length p) (hq : Src w aq (cellsQ Q)) (h : ReadsD w v D) :
    Calls Try.prog 25 #[v, .slice aq m cq] w fun e w' => ∃ u, e = .returned u ∧ w'.ownsRow w.heap.size 9 1 u D.S.length (cellsS (applyW D.S Q)) ∧ Below w.heap.size w w' := by
  obtain ⟨a1, c1, a2, c2, a3, c3, rfl, s1, s2, s3⟩ := h
  have S1 : Hid (Src w a1 (cellsS D.S)) := s1
  have HQ : Hid (Src w aq (cellsQ Q)) := hq
  have HOK : Hid (∀ p ∈ Q, okW D.S.length p) := hok
  have NM : Hid (Q.length = m) := hm
  obtain ⟨n, hn⟩ : ∃ n, D.S.length = n := ⟨_, rfl⟩
  have N1 : Hid (D.S.length = n) := hn
  have hn1 : n ≤ 1048576 := by rw [← hn]; exact hs.1.1
  rw [hn]
  clear hs s1 s2 s3 hq hok hm hn
  go_enter Try.func25, Try.ntmps25
  go_wp2_with fail
  refine (copyS a1 n c1 D.S _ N1.out hn1 (S1.out.below ((Below.refl _ _).alloc (Nat.le_refl _) _))).mono ?_
  rintro e w1 ⟨v1, rfl, o1, hb1⟩
  obtain ⟨b1, d1, rfl, _, hbd⟩ := own_src o1
  have B1 : Hid (Below w.heap.size w w1) := Below.new hb1
  have O1 : Hid (w1.ownsRow (w.heap.size + 1) 9 1 (.slice b1 n d1) n (cellsS D.S)) := own_mono o1 (by simp)
  have BD : Hid (∀ ad, b1 = some ad → w.heap.size ≤ ad.block ∧ ad.block < w1.heap.size) := fun ad e => ⟨by have := (hbd ad e).1; simp at this; omega, (hbd ad e).2⟩
  clear o1 hb1 hbd
  go_wp2_with fail
  refine (writesBySector aq m cq n Q _ NM.out hm1 hn1 (by rw [← N1.out]; exact HOK.out) (HQ.out.below B1.out)).mono ?_
  rintro e w2 ⟨vs, rfl, G2, hb2⟩
  have B2 : Hid (Below w.heap.size w w2) := B1.out.trans (hb2.mono B1.out.size)
  have O2 : Hid (w2.ownsRow (w.heap.size + 1) 9 1 (.slice b1 n d1) n (cellsS D.S)) := own_below O1.out hb2
  have HG2 : Hid (Grp w2 w1.heap.size w1.heap.size n vs Q) := G2
  clear G2 hb2 O1 B1
  go_wp2_with fail
  go_loopw [16] (fun i wr => ∃ k : Nat, k ≤ n ∧ i = .int .i64 k ∧ Hid (Below w.heap.size w wr) ∧ Hid (Grp wr w1.heap.size w1.heap.size n vs Q) ∧ Hid (wr.ownsRow (w.heap.size + 1) 9 1 (.slice b1 n d1) n (cellsS (partW D.S Q k)))) (fun i _ => n - (intOf i).toNat)
  case atStart => exact ⟨0, by omega, rfl, B2.out, HG2.out, by rw [partW_zero]; exact O2.out⟩
  case round =>
    obtain ⟨k, hk, rfl, hb, HG, HO⟩ := hrel
    clear B2 O2 HG2
    by_cases hlt : k < n
    · have hk0 : (0 : Int) ≤ (k : Int) := by omega
      have hkn : (k : Int) < (n : Int) := by omega
      have hkS : Hid (k < D.S.length) := by show k < D.S.length; rw [N1.out]; exact hlt
      have hrow := HG.out.row k hlt
      obtain ⟨lk, hlk⟩ : ∃ l, (byS Q k).length = l := ⟨_, rfl⟩
      rw [hlk] at hrow
      obtain ⟨ak, ck, ek, sk, _⟩ := own_src hrow
      have LK : Hid ((byS Q k).length = lk) := hlk
      have hl500 : lk ≤ 500 := by rw [← hlk]; have := byS_length Q k; have := NM.out; omega
      have hcA := (own_cell HG.out.lists (i := k) (by rw [HG.out.len]; exact hlt)).1
      rw [ek] at hcA
      have SK : Hid (Src wr ak (cellsS (byS Q k))) := sk
      clear hrow ek hlk sk
      by_cases h0 : lk = 0
      · subst h0
        have E : Hid (partW D.S Q k = partW D.S Q (k + 1)) := partW_skip D.S Q k hkS.out (List.eq_nil_of_length_eq_zero LK.out)
        clear LK SK
        go_wp2_with fail
        exact ⟨⟨k + 1, by omega, by go_num, hb.out, HG.out, by rw [← E.out]; exact HO.out⟩, by simp [intOf]; omega⟩
      · have hpos : (0 : Int) < (lk : Int) := by omega
        obtain ⟨b, o, y, rfl, hc, hy⟩ := srcS SK.out (i := lk - 1) (by rw [LK.out]; omega)
        have hidx : ((lk : Int) - 1) = ((lk - 1 : Nat) : Int) := by omega
        have hrow := HO.out.2
        rcases hrow with ⟨e, _⟩ | ⟨g, cap, cur, e, _⟩
        · cases e; omega
        cases e
        have hk2 : k < (cellsS (partW D.S Q k)).length := by rw [cellsS_length, partW_length, N1.out]; exact hlt
        obtain ⟨z, z1, z2⟩ := own_cellX HO.out hk2
        have EY : Hid (lastOr (byS Q k) (D.S.getD k e0) = y) := by show lastOr _ _ = y; rw [lastOr_get _ _ (by rw [LK.out]; omega), LK.out]; exact hy.out
        have HO2 : Hid ((wr.setCell ⟨g, k, none⟩ (.string y)).ownsRow (w.heap.size + 1) 9 1 (.slice (some ⟨g, 0, none⟩) n d1) n (cellsS (partW D.S Q (k + 1)))) := own_congr (own_set HO.out k hk2 (.string y)) (by rw [cellsS_set, ← partW_set D.S Q k hkS.out, EY.out])
        have HBG : Hid (w.heap.size ≤ g ∧ g < w1.heap.size) := BD.out _ rfl
        have l1 : ((lk : Int) - 1) < (lk : Int) := by omega
        have l0 : (0 : Int) ≤ (lk : Int) - 1 := by omega
        have lt : ((lk : Int) - 1).toNat = lk - 1 := by omega
        clear hk2 h0 LK SK hy
        go_wp2_with fail
        exact ⟨⟨k + 1, by omega, by go_num, Below.setCell (p := ⟨g, k, none⟩) hb.out HBG.out.1 _, HG.out.setLow (by dsimp only; exact HBG.out.2) _, HO2.out⟩, by simp [intOf]; omega⟩
    · have hkn : k = n := by omega
      have HF : Hid (wr.ownsRow (w.heap.size + 1) 9 1 (.slice b1 n d1) n (cellsS (applyW D.S Q))) := own_congr HO.out (by rw [hkn, ← N1.out, partW_all])
      clear hkn
      go_wp2_with fail
      go_ret
      exact ⟨_, rfl, own_mono HF.out (by omega), hb.out⟩
end Go.Proofs.Ytpbodiaglgkkkaa
