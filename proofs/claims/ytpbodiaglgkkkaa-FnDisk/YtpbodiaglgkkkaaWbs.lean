
/-
  The contract of the program's writesBySector. By an AI agent.
-/
import Derived.Test.YtpbodiaglgkkkaaGrp
import Derived.Deep.RegionLaw
namespace Go.Proofs.Ytpbodiaglgkkkaa
open Go.ChangeShapes Go.WideShapes Go.ChangeAt Go.RowKit Go.Deep
set_option linter.unusedVariables false

theorem src_oneS {w : World} {y : ByteArray} {B t : Nat} (hB : B = w.heap.size) : Src (w.alloc (.cells #[.string y] t)) (some ⟨B, 0, none⟩) (cellsS [y]) := by
  subst hB
  refine .inr ⟨_, 0, rfl, fun j hj => ?_⟩
  have hb := Box.new (w := w) (B := w.heap.size) (vs := #[.string y]) (t := t) rfl
  have hj' : j < 1 := hj
  rw [Nat.zero_add]
  match j, hj' with
  | 0, _ => exact (hb 0 _ rfl).1
theorem own_drew {w : World} {base e s n : Nat} {v : Value} {xs : List Value} (h : w.ownsRow base e s v n xs) : w.drew.ownsRow base e s v n xs := h

set_option maxHeartbeats 4000000 in
theorem writesBySector (a : Option Addr) (m c n : Nat) (C : List (Int × ByteArray)) (w : World) (hm : C.length = m) (hm1 : m ≤ 500) (hn : n ≤ 1048576) (hok : ∀ p ∈ C, okW n p) (h : Src w a (cellsQ C)) :
    Calls Try.prog 30 #[.slice a m c, .int .i64 (n : Int)] w fun e w' => ∃ vs, e = .returned (.slice (some ⟨w.heap.size, 0, none⟩) n n) ∧ Grp w' w.heap.size w.heap.size n vs C ∧ Below w.heap.size w w' := by
  have HH : Hid (Src w a (cellsQ C)) := h
  have HO : Hid (∀ p ∈ C, okW n p) := hok
  have N1 : Hid (C.length = m) := hm
  have hmk := run_make_L n hn
  clear h hok hm
  go_enter Try.func30, Try.ntmps30
  go_wp2_with fail
  clear hmk
  go_loopw [12] (fun i wr => ∃ k : Nat, k ≤ m ∧ i = .int .i64 k ∧ Hid (Below w.heap.size w wr) ∧ Hid (∃ vs, Grp wr w.heap.size w.heap.size n vs (C.take k))) (fun i _ => m - (intOf i).toNat)
  case atStart => exact ⟨0, by omega, rfl, (Below.refl _ _).alloc (Nat.le_refl _) _, _, by rw [List.take_zero]; exact Grp.made hn⟩
  case round =>
    obtain ⟨k, hk, rfl, hb, hg⟩ := hrel
    by_cases hlt : k < m
    · obtain ⟨vs, G⟩ := hg.out
      have HG : Hid (Grp wr w.heap.size w.heap.size n vs (C.take k)) := G
      clear G
      have HK : Hid (k < C.length) := by show k < C.length; rw [N1.out]; exact hlt
      obtain ⟨b, o, x, y, rfl, hc1, hc2, hy⟩ := srcQ (HH.out.below hb.out) HK.out
      have hw := HO.out _ (getD_mem C q0 k HK.out)
      rw [hy.out] at hw
      obtain ⟨j, hxj⟩ : ∃ j : Nat, x = (j : Int) := ⟨x.toNat, by have := hw.1; simp only [] at this; omega⟩
      subst hxj
      have hj : j < n := by have := hw.2.1; simp only [] at this; omega
      have hj0 : (0 : Int) ≤ (j : Int) := by omega
      have hjn : (j : Int) < (n : Int) := by omega
      have ET : Hid (C.take (k + 1) = C.take k ++ [((j : Int), y)]) := by show C.take (k + 1) = _; rw [take_snoc C q0 k HK.out, hy.out]
      obtain ⟨aj, cj, ej, _, _⟩ := own_src (HG.out.row j hj)
      obtain ⟨lj, hlj⟩ : ∃ l, (byS (C.take k) j).length = l := ⟨_, rfl⟩
      have LJ : Hid ((byS (C.take k) j).length = lj) := hlj
      rw [hlj] at ej
      have EJ : Hid (vs.getD j undef = .slice aj lj cj) := ej
      have hl500 : lj ≤ 500 := by rw [← hlj]; have h1 := byS_length (C.take k) j; have h2 : (C.take k).length ≤ 500 := by simp; omega
                                  omega
      have hcell := own_cell HG.out.lists (i := j) (by rw [HG.out.len]; exact hj)
      rw [ej] at hcell
      obtain ⟨hcA, hcF⟩ := hcell
      have hlt1 := World.block_lt_of_cell? _ _ hcA
      have L1 : (wr.alloc (.cells #[.int .i64 (j : Int), .string y] 47)).cell? ⟨w.heap.size, j, none⟩ = some (.slice aj lj cj) := (((Below.refl _ wr).alloc (Nat.le_refl _) _).cell (p := ⟨w.heap.size, j, none⟩) hlt1).trans hcA
      have HL1 : Hid (w.heap.size < wr.heap.size) := hlt1
      have RLT : Hid (∀ g, (Value.slice aj lj cj).ownBlock = some g → w.heap.size ≤ g ∧ g < wr.heap.size) := fun g e => (HG.out.row j hj).lt g (by rw [EJ.out]; exact e)
      clear hlj ej hw hlt1 hg hcA hcF hc1 hc2
      obtain ⟨hc1, hc2⟩ : wr.cell? ⟨b, o + k * 2, none⟩ = some (.int .i64 (j : Int)) ∧ wr.cell? ⟨b, o + k * 2 + 1, none⟩ = some (.string y) := by
        obtain ⟨b', o', x', y', e', h1, h2, hy'⟩ := srcQ (HH.out.below hb.out) HK.out
        cases e'
        have := hy'.out.symm.trans hy.out
        cases this
        exact ⟨h1, h2⟩
      go_wp2_with fail
      have PB : Box (wr.alloc (.cells #[.int .i64 (j : Int), .string y] 47)) wr.heap.size [.int .i64 (j : Int), .string y] := Box.new rfl
      have G1 : Grp (wr.alloc (.cells #[.int .i64 (j : Int), .string y] 47)) w.heap.size w.heap.size n vs (C.take k) := HG.out.below ((Below.refl _ _).alloc (Nat.le_refl _) _)
      have B1 : Below w.heap.size w (wr.alloc (.cells #[.int .i64 (j : Int), .string y] 47)) := hb.out.alloc hb.out.size _
      have LT : wr.heap.size < (wr.alloc (.cells #[.int .i64 (j : Int), .string y] 47)).heap.size := by simp
      generalize wr.alloc (.cells #[.int .i64 (j : Int), .string y] 47) = W1 at *
      have HPB : Hid (Box W1 wr.heap.size [.int .i64 (j : Int), .string y]) := PB
      have HG1 : Hid (Grp W1 w.heap.size w.heap.size n vs (C.take k)) := G1
      have HB1 : Hid (Below w.heap.size w W1) := B1
      have HLT : Hid (wr.heap.size < W1.heap.size) := LT
      have HGD : Hid (Grp (W1.alloc (.cells #[.string y] 9)).drew w.heap.size w.heap.size n vs (C.take k)) := (HG1.out.below ((Below.refl _ _).alloc (Nat.le_refl _) _)).drew
      have HPD : Hid (Box (W1.alloc (.cells #[.string y] 9)).drew wr.heap.size [.int .i64 (j : Int), .string y]) := (HPB.out.old _).drew
      clear PB G1 B1 LT L1 hc1 hc2
      obtain ⟨p0, _⟩ := HPB.out 0 _ rfl
      obtain ⟨p1, _⟩ := HPB.out 1 _ rfl
      obtain ⟨p0', _⟩ := (HPB.out.old (.cells #[.string y] 9)) 0 _ rfl
      obtain ⟨p1', _⟩ := (HPB.out.old (.cells #[.string y] 9)) 1 _ rfl
      have L1 : W1.cell? ⟨w.heap.size, j, none⟩ = some (.slice aj lj cj) := by
        have := (own_cell HG1.out.lists (i := j) (by rw [HG1.out.len]; exact hj)).1
        rw [EJ.out] at this; exact this
      have L2 : (W1.alloc (.cells #[.string y] 9)).cell? ⟨w.heap.size, j, none⟩ = some (.slice aj lj cj) := by
        have := (own_cell HGD.out.lists (i := j) (by rw [HGD.out.len]; exact hj)).1
        rw [EJ.out] at this; exact this
      have RW : Hid ((W1.alloc (.cells #[.string y] 9)).drew.ownsRow w.heap.size 9 1 (.slice aj lj cj) lj (cellsS (byS (C.take k) j))) := by
        have := HGD.out.row j hj
        rw [EJ.out, LJ.out] at this; exact this
      have BS : Hid (w.heap.size ≤ (W1.alloc (.cells #[.string y] 9)).drew.heap.size) := le_alloc HB1.out.size _
      go_region_law (refine step_append_src rfl (.tmp 23) (.tmp 26) 23 rfl w.heap.size 9 (.string ⟨#[]⟩) 1 16 Try.underlying23 infoS rfl (by decide) (by decide) (.slice aj lj cj) lj (cellsS (byS (C.take k) j)) (by simp [Act.eval]) RW.out ⟨W1.heap.size, 0, none⟩ 1 1 (cellsS [y]) (by simp [Act.eval]) rfl (show Src (W1.alloc (.cells #[.string y] 9)) _ _ from src_oneS rfl) (cellsS_one _) (by omega) (by decide) BS.out ?_; intro v' w' hown hgrow hnew; obtain ⟨b', d', rfl, _, _⟩ := own_src hown; obtain ⟨p0w, _⟩ := (Box.grown HPD.out hgrow (fun e => by have := (RLT.out _ e).2; omega)) 0 _ rfl; have lw := own_cellX (own_grown HGD.out.lists hgrow (fun g e e2 => by cases e; exact own_ne HGD.out.lists RW.out (by decide) _ rfl e2)) (i := j) (by rw [HGD.out.len]; exact hj); obtain ⟨z, l1, l2⟩ := lw; have HGF : Hid (Grp (w'.setCell ⟨w.heap.size, j, none⟩ (.slice b' (lj + 1) d')) w.heap.size w.heap.size n (vs.set j (.slice b' (lj + 1) d')) (C.take (k + 1))) := (by rw [ET.out]; exact HGD.out.more hj (by rw [LJ.out]; exact hown) (by rw [EJ.out]; exact hgrow) (by rw [EJ.out]; exact hnew)); have HBF : Hid (Below w.heap.size w (w'.setCell ⟨w.heap.size, j, none⟩ (.slice b' (lj + 1) d'))) := Below.setCell (p := ⟨w.heap.size, j, none⟩) ((HB1.out.alloc HB1.out.size _).drew.grown hgrow BS.out (fun g e => (RLT.out g e).1)) (by dsimp only; omega) _; clear hown hgrow hnew)
      all_goals go_wp2_with fail
      all_goals exact ⟨⟨k + 1, by omega, by go_num, HBF, _, HGF.out⟩, by simp [intOf]; omega⟩
    · have hkn : k = m := by omega
      have HG : Hid (∃ vs, Grp wr w.heap.size w.heap.size n vs C) := by
        obtain ⟨vs, G⟩ := hg.out
        rw [hkn, List.take_of_length_le (by rw [N1.out]; exact Nat.le_refl _)] at G
        exact ⟨vs, G⟩
      clear hkn hg
      go_wp2_with fail
      go_ret
      obtain ⟨vs, G⟩ := HG.out
      exact ⟨vs, rfl, G, hb.out⟩
end Go.Proofs.Ytpbodiaglgkkkaa
