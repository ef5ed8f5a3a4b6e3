
/-
  The program's CountRefs. By an AI agent.
-/
import Derived.Test.YtmpaophegdeokaaTrc
namespace Go.Proofs.Ytmpaophegdeokaa
open Go.ChangeShapes Go.WideShapes Go.ChangeAt Go.RowKit Go.Deep
set_option linter.unusedVariables false
set_option maxRecDepth 100000

/-- reachedBy, its answer under letters. -/
theorem reachedByE (v : Value) (H : List NM) (ra : Option Addr) (n rc : Nat) (L : List Int) (w : World) (hsm : smallH H) (h : ReadsH w v H) (hL : L.length = n) (hn : n ≤ 1048576) (hs : Src w ra (cellsI L)) :
    Calls Try.prog 105 #[v, .slice ra n rc] w fun e w' => ∃ A ok, e = .returned (.tuple #[.agg (A.map Value.bool).toArray, .bool ok]) ∧ A.length = 50 ∧ Below w.heap.size w w' ∧ (ok = false → allF H L st0.R = none) ∧ (ok = true → allF H L st0.R = some A) := by
  refine (reachedBy v H ra n rc L w hsm h hL hn hs).mono ?_
  rintro e w1 ⟨hb1, (⟨h1, rfl⟩ | ⟨A, h1, hA, rfl⟩)⟩
  · exact ⟨st0.R, false, rfl, rfl, hb1, fun _ => h1, fun h => by cases h⟩
  · exact ⟨A, true, rfl, hA, hb1, fun h => (by cases h), fun _ => h1⟩
theorem there_new (w : World) (zs : Array Value) (t : TypeId) (n : Nat) (h : zs.size = n) : World.there (w.alloc (.cells zs t)) w.heap.size 0 n := box_there (Box.new (vs := zs) rfl) (by simpa using h)
theorem stored_new {w w1 w2 : World} {B : Nat} {vs : List Value} {X : List Value} (zs : Array Value) (t : TypeId) (hz : zs.size = X.length) (hX : 0 < X.length) (hb : Below w.heap.size w w1) (hx : Box w1 B vs) (hB : 0 < vs.length) (h : World.setCells (w1.alloc (.cells zs t)) w1.heap.size 0 X = w2) :
    Below w.heap.size w w2 ∧ Box w2 B vs ∧ Box w2 w1.heap.size X ∧ B < w1.heap.size ∧ w1.heap.size < w2.heap.size := by
  subst h
  have TH5 : World.there (w1.alloc (.cells zs t)) w1.heap.size 0 X.length := there_new w1 zs t _ hz
  have hbb : Below w1.heap.size w1 (World.setCells (w1.alloc (.cells zs t)) w1.heap.size 0 X) := below_setCells (Nat.le_refl _) _ _ _ ((Below.refl _ _).alloc (Nat.le_refl _) _)
  have hbx : Box (World.setCells (w1.alloc (.cells zs t)) w1.heap.size 0 X) w1.heap.size X := fun j v hv => by
    have h1 := World.rangeAt_setCells_same (w1.alloc (.cells zs t)) w1.heap.size 0 X TH5 j v hv
    have h2 := (World.there_setCells TH5 w1.heap.size 0 X j (by have := (List.getElem?_eq_some_iff.1 hv).1; omega)).2
    rw [Nat.zero_add] at h1 h2
    exact ⟨h1, h2⟩
  exact ⟨hb.trans (hbb.mono hb.size), hx.below hbb, hbx, World.block_lt_of_cell? _ _ (hx 0 _ (List.getElem?_eq_getElem hB)).1, World.block_lt_of_cell? _ _ (hbx 0 _ (List.getElem?_eq_getElem hX)).1⟩

set_option maxHeartbeats 2000000 in
theorem implCountRefs (v : Value) (H : List NM) (ra : Option Addr) (n rc : Nat) (L : List Int) (w : World) (hsm : smallH H) (h : ReadsH w v H) (hL : L.length = n) (hn : n ≤ 1048576) (hs : Src w ra (cellsI L)) :
    Calls Try.prog 47 #[v, .slice ra n rc] w fun e w' => ∃ u R q, e = .returned (.tuple #[u, .int .i64 q]) ∧ refsA H L = (R, q) ∧ w'.ownsRow w.heap.size 3 1 u R.length (cellsI R) ∧ R.length ≤ 50 ∧ Below w.heap.size w w' := by
  obtain ⟨a, c, rfl, hr⟩ := h
  have HR : Hid (ReadsH w (.agg #[.slice a H.length c]) H) := ⟨a, c, rfl, hr⟩
  have HR2 : Hid (ReadsHL w a H) := hr
  have HS : Hid (smallH H) := hsm
  have HL : Hid (L.length = n) := hL
  have HC : Hid (Src w ra (cellsI L)) := hs
  have hmk := run_make_I50
  clear hr hsm hL hs
  by_cases t1 : (4096 : Int) < (n : Int)
  · have F : Hid (refsA H L = ([], 2)) := by show refsA H L = _; unfold refsA; rw [if_pos (by rw [HL.out]; omega)]
    go_enter Try.func47, Try.ntmps47
    go_wp2_with fail
    go_ret2
    exact ⟨_, _, _, rfl, F.out, World.ownsRow_nil _ _ _ _, by simp, (Below.refl _ _).alloc (Nat.le_refl _) _⟩
  by_cases t2 : (20 : Int) < (n : Int)
  · have F : Hid (refsA H L = ([], 6)) := by show refsA H L = _; unfold refsA; rw [if_neg (by rw [HL.out]; omega), if_pos (by rw [HL.out]; omega)]
    go_enter Try.func47, Try.ntmps47
    go_wp2_with fail
    go_ret2
    exact ⟨_, _, _, rfl, F.out, World.ownsRow_nil _ _ _ _, by simp, (Below.refl _ _).alloc (Nat.le_refl _) _⟩
  have RA : Hid (refsA H L = match allF H L st0.R with | none => ([], 1) | some A => (cntI (rT L L.length ++ kT H A 50), 0)) := by show refsA H L = _; unfold refsA; rw [if_neg (by rw [HL.out]; omega), if_neg (by rw [HL.out]; omega)]; cases allF H L st0.R <;> rfl
  go_enter Try.func47, Try.ntmps47
  go_wp2_with fail
  refine (reachedByE _ H ra n rc L _ HS.out (HR.out.below ((Below.refl _ _).alloc (Nat.le_refl _) _)) HL.out (by omega) (HC.out.below ((Below.refl _ _).alloc (Nat.le_refl _) _))).mono ?_
  rintro e w1 ⟨A, ok, rfl, hA, hb1, g1, g2⟩
  have B1 : Hid (Below w.heap.size w w1) := Below.new hb1
  have X1 : Hid (Box w1 w.heap.size [.slice a H.length c]) := Box.below (Box.new rfl) hb1
  have HA : Hid (A.length = 50) := hA
  have G1 : Hid (ok = false → allF H L st0.R = none) := g1
  have G2 : Hid (ok = true → allF H L st0.R = some A) := g2
  obtain ⟨X, hX⟩ : ∃ X, A.map Value.bool = X := ⟨_, rfl⟩
  have XL : Hid (X.toArray.size = 50) := by show X.toArray.size = 50; rw [← hX]; simp; exact hA
  have XO : Hid (X.toArray.all (·.oneCell') = true) := by show _ = true; rw [← hX]; exact bools_one A
  have HX : Hid (A.map Value.bool = X) := hX
  have HI : Hid ((Try.prog.info? 139).map (·.size) = some X.toArray.size) := by show _ = _; rw [XL.out]; kernel_rfl
  rw [hX]
  clear hb1 hA g1 g2 hX
  go_wp2_with (refine wpList_store_mid rfl 139 _ _ rfl w1.heap.size 0 X.toArray rfl rfl (there_new w1 _ _ _ (by rw [XL.out]; rfl)) HI.out XO.out ?_; generalize hw2 : World.setCells _ _ _ _ = w2; (cases ok))
  · have F : Hid (refsA H L = ([], 1)) := by show _ = _; rw [RA.out, G1.out (by simp)]
    obtain ⟨b2, _⟩ := stored_new _ _ (by show 50 = X.length; have := XL.out; simp at this; omega) (by have := XL.out; simp at this; omega) B1.out X1.out (by simp) hw2
    go_ret2
    exact ⟨_, _, _, rfl, F.out, World.ownsRow_nil _ _ _ _, by simp, b2⟩
  · obtain ⟨b2, x2, y2, z1, z2⟩ := stored_new _ _ (by show 50 = X.length; have := XL.out; simp at this; omega) (by have := XL.out; simp at this; omega) B1.out X1.out (by simp) hw2
    have hal : allF H L st0.R = some A := G2.out (by simp)
    have F : Hid (refsA H L = (cntI (rT L n ++ kT H A 50), 0)) := by show _ = _; rw [RA.out, hal, HL.out]
    have HN : Hid (nodS H A ∧ ∀ r ∈ L, r = -1 ∨ pageB r = true) := ⟨(all_nod L _ A hal (nod0 H) rfl).1, (all_nod L _ A hal (nod0 H) rfl).2⟩
    have B2 : Hid (Below w.heap.size w w2) := b2
    have X2 : Hid (Box w2 w.heap.size [.slice a H.length c]) := x2
    have Y2 : Hid (Box w2 w1.heap.size X) := y2
    have O2 : Hid (World.ownsRow (w2.alloc (.cells (madeCells #[.int .i64 0] 50) 3)) w.heap.size 3 1 (.slice (some ⟨w2.heap.size, 0, none⟩) 50 50) 50 (cellsI (cntI (rT L 0)))) := own_zero w2 w.heap.size (by omega)
    clear b2 x2 y2 hal hw2 hmk G1 G2
    go_loopw [32] (fun iv wr => ∃ i : Nat, i ≤ n ∧ iv = .int .i64 i ∧ Hid (Below w.heap.size w wr) ∧ Hid (Box wr w.heap.size [.slice a H.length c]) ∧ Hid (Box wr w1.heap.size X) ∧ Hid (wr.ownsRow w.heap.size 3 1 (.slice (some ⟨w2.heap.size, 0, none⟩) 50 50) 50 (cellsI (cntI (rT L i))))) (fun i _ => n - (intOf i).toNat)
    case atStart => exact ⟨0, by omega, rfl, B2.out.alloc B2.out.size _, X2.out.old _, Y2.out.old _, O2.out⟩
    case round =>
      obtain ⟨i, hi, rfl, hb2, hx2, hy2, ho2⟩ := hrel
      by_cases hlt2 : i < n
      · have hii : (i : Int) < (n : Int) := by omega
        have hi0 : (0 : Int) ≤ (i : Int) := by omega
        have HIL : Hid (i < L.length) := by show i < L.length; rw [HL.out]; exact hlt2
        obtain ⟨kb, ko, x, rfl, hkc, hxk⟩ := srcI (HC.out.below hb2.out) (i := i) HIL.out
        have hpx : x = -1 ∨ pageB x = true := by
          rw [← hxk.out]
          refine HN.out.2 _ ?_
          rw [List.getD_eq_getElem?_getD, List.getElem?_eq_getElem HIL.out]
          exact List.getElem_mem _
        rcases hpx with rfl | hpx
        · have RN : Hid (rT L (i + 1) = rT L i) := rT_no HIL.out (by rw [hxk.out]; omega)
          go_wp2_with fail
          exact ⟨⟨i + 1, by omega, by go_num, hb2.out, hx2.out, hy2.out, by rw [RN.out]; exact ho2.out⟩, by simp [intOf]; omega⟩
        · obtain ⟨hx0, hx1⟩ := page_nat hpx
          obtain ⟨j, rfl⟩ : ∃ j : Nat, x = (j : Int) := ⟨x.toNat, by omega⟩
          have hx50 : j < 50 := by simpa using hx1
          have hj0 : (0 : Int) ≤ (j : Int) := by omega
          have hj1 : (j : Int) < 50 := by omega
          have hjm : ((j : Int) != -1) = true := by first | (simp; done) | (simp; omega)
          have TN : Hid (rT L i ++ [(j : Int)] = rT L (i + 1)) := by
            show _ = _
            rw [rT_yes HIL.out (by rw [hxk.out]; omega), hxk.out]
          have LT : Hid ((rT L i).length ≤ 1000) := by
            show _ ≤ 1000
            have := rT_le L i
            omega
          obtain ⟨y1, y1f, y2⟩ := bump (x := j) ho2.out hx50
          obtain ⟨cc, hcc⟩ : ∃ cc, List.count ((j : Nat) : Int) (rT L i) = cc := ⟨_, rfl⟩
          have hcl : cc ≤ 1000 := by rw [← hcc]; exact Nat.le_trans List.count_le_length LT.out
          rw [hcc] at y1 y2
          have N1 : Hid (Below w.heap.size w (wr.setCell ⟨w2.heap.size, j, none⟩ (.int .i64 ((cc : Int) + 1)))) := hb2.out.setCell (by show w.heap.size ≤ w2.heap.size; omega) _
          have N2 : Hid (Box (wr.setCell ⟨w2.heap.size, j, none⟩ (.int .i64 ((cc : Int) + 1))) w.heap.size [.slice a H.length c]) := hx2.out.other _ (by dsimp only; omega) _
          have N4 : Hid (Box (wr.setCell ⟨w2.heap.size, j, none⟩ (.int .i64 ((cc : Int) + 1))) w1.heap.size X) := hy2.out.other _ (by dsimp only; omega) _
          have N3 : Hid (World.ownsRow (wr.setCell ⟨w2.heap.size, j, none⟩ (.int .i64 ((cc : Int) + 1))) w.heap.size 3 1 (.slice (some ⟨w2.heap.size, 0, none⟩) 50 50) 50 (cellsI (cntI (rT L (i + 1))))) := by
            have h9 := y2
            rw [TN.out] at h9
            exact h9
          clear y2 hcc
          clear hpx hx0 hx1 hb2 hx2 hy2 ho2
          go_wp2_with fail
          exact ⟨⟨i + 1, by omega, by go_num, N1.out, N2.out, N4.out, N3.out⟩, by simp [intOf]; omega⟩
      · have hin : i = n := by omega
        subst hin
        have RG : Hid (wr.rangeAt w1.heap.size 0 X) := box_range hy2.out
        have HI2 : Hid ((Try.prog.info? 139).map (·.size) = some X.length) := by show _ = _; rw [← HX.out, List.length_map, HA.out]; kernel_rfl
        go_wp2_with (refine wpList_load_mid rfl 139 _ rfl w1.heap.size 0 rfl X _ RG.out Try.underlying139 rfl HI2.out ?_)
        obtain ⟨arr, harr⟩ : ∃ arr, X.toArray = arr := ⟨_, rfl⟩
        have AR : Hid (∀ k, k < 50 → arr[k]? = some (.bool (A.getD k false))) := fun k hk => by
          rw [← harr, ← HX.out]
          have hj : k < A.length := by rw [HA.out]; exact hk
          simp [List.getElem?_eq_getElem hj]
        rw [harr]
        have RL : Hid ((rT L i).length ≤ 20) := by show _ ≤ 20; have := rT_le L i; omega
        clear harr HI2 RG HI XL XO
        go_loopw [46] (fun iv wr => ∃ k : Nat, k ≤ 50 ∧ iv = .int .i64 k ∧ Hid (Below w.heap.size w wr) ∧ Hid (Box wr w.heap.size [.slice a H.length c]) ∧ Hid (wr.ownsRow w.heap.size 3 1 (.slice (some ⟨w2.heap.size, 0, none⟩) 50 50) 50 (cellsI (cntI (rT L i ++ kT H A k))))) (fun i _ => 50 - (intOf i).toNat)
        case atStart => exact ⟨0, by omega, rfl, hb2.out, hx2.out, by show World.ownsRow _ _ _ _ _ _ (cellsI (cntI (rT L i ++ []))); rw [List.append_nil]; exact ho2.out⟩
        case round =>
          clear hb2 hx2 hy2 ho2
          obtain ⟨p, hp, rfl, hb, hx, ho⟩ := hrel
          by_cases hlt : p < 50
          · have hpi : (p : Int) < 50 := by omega
            have hp0 : (0 : Int) ≤ (p : Int) := by omega
            have hai := AR.out p hlt
            obtain ⟨ba, hba⟩ : ∃ b, A.getD p false = b := ⟨_, rfl⟩
            rw [hba] at hai
            have HBA : Hid (A.getD p false = ba) := hba
            have hix := run_index_PS arr p ba hlt hai
            clear hba
            cases ba with
            | false =>
              have KN : Hid (kT H A (p + 1) = kT H A p) := by show kT H A (p + 1) = _; rw [kT, HBA.out]; simp
              go_wp2_with fail
              exact ⟨⟨p + 1, by omega, by go_num, hb.out, hx.out, by rw [KN.out]; exact ho.out⟩, by simp [intOf]; omega⟩
            | true =>
              have HPL : Hid (p < H.length) := nod_lt HN.out.1 HBA.out
              obtain ⟨hbk, hof, D, a1, x1, a2, x2, a3, x3, rfl, r0, r1, r2, r3, hD, hR⟩ := srcN HR2.out (i := p) HPL.out
              have CELL : Hid (∀ w1, Below w.heap.size w w1 → w1.cell? ⟨hbk, hof + p * 4 + 3, none⟩ = some (.slice a3 D.K.length x3)) := fun w1 hb9 => (hb9.cell (p := ⟨hbk, hof + p * 4 + 3, none⟩) (World.block_lt_of_cell? _ _ r3)).trans r3
              have KD : Hid (D.K.length ≤ 4 ∧ ∀ x ∈ D.K, pageB x = true) := by
                have h9 := HN.out.1 p HBA.out
                rw [hD.out] at h9
                exact ⟨bad_few h9, ok_kids h9⟩
              have KS : Hid (Src w a3 (cellsI D.K)) := by
                obtain ⟨_, _, _, _, a3', x3', e9, _, _, s3⟩ := hR.out
                cases e9
                exact s3
              have KN : Hid (kT H A (p + 1) = kT H A p ++ D.K) := by show kT H A (p + 1) = _; rw [kT, HBA.out, if_pos rfl, hD.out]
              have KL : Hid ((kT H A p).length ≤ 4 * p) := kT_le HN.out.1 p
              have hil : (p : Int) < (H.length : Int) := by have := HPL.out; omega
              obtain ⟨m, hm⟩ : ∃ m, D.K.length = m := ⟨_, rfl⟩
              rw [hm] at CELL
              have HM : Hid (D.K.length = m) := hm
              have hm4 : m ≤ 4 := by rw [← hm]; exact KD.out.1
              have g3 := CELL.out _ hb.out
              obtain ⟨p0, _⟩ := hx.out 0 _ rfl
              clear r0 r1 r2 r3 hm
              go_wp2_with fail
              go_loopw [58] (fun kv wr => ∃ k : Nat, k ≤ m ∧ kv = .int .i64 k ∧ Hid (Below w.heap.size w wr) ∧ Hid (Box wr w.heap.size [.slice (some ⟨hbk, hof, none⟩) H.length c]) ∧ Hid (wr.ownsRow w.heap.size 3 1 (.slice (some ⟨w2.heap.size, 0, none⟩) 50 50) 50 (cellsI (cntI (rT L i ++ kT H A p ++ D.K.take k))))) (fun i _ => m - (intOf i).toNat)
              case atStart => exact ⟨0, by omega, rfl, hb.out, hx.out, by show World.ownsRow _ _ _ _ _ _ (cellsI (cntI (rT L i ++ kT H A p ++ []))); rw [List.append_nil]; exact ho.out⟩
              case round =>
                clear hb hx ho g3 p0
                obtain ⟨k, hk, rfl, hb2, hx2, ho2⟩ := hrel
                by_cases hlt2 : k < m
                · have hkk : (k : Int) < (m : Int) := by omega
                  have hk0 : (0 : Int) ≤ (k : Int) := by omega
                  obtain ⟨kb, ko, x, rfl, hkc, hxk⟩ := srcI (KS.out.below hb2.out) (i := k) (by rw [HM.out]; exact hlt2)
                  have hpx : pageB x = true := by
                    rw [← hxk.out]
                    refine KD.out.2 _ ?_
                    rw [List.getD_eq_getElem?_getD, List.getElem?_eq_getElem (by rw [HM.out]; exact hlt2)]
                    exact List.getElem_mem _
                  obtain ⟨hx0, hx1⟩ := page_nat hpx
                  obtain ⟨j, rfl⟩ : ∃ j : Nat, x = (j : Int) := ⟨x.toNat, by omega⟩
                  have hx50 : j < 50 := by simpa using hx1
                  have hj0 : (0 : Int) ≤ (j : Int) := by omega
                  have hj1 : (j : Int) < 50 := by omega
                  have TN : Hid (rT L i ++ kT H A p ++ D.K.take k ++ [(j : Int)] = rT L i ++ kT H A p ++ D.K.take (k + 1)) := by
                    show _ = _
                    rw [List.append_assoc (rT L i ++ kT H A p), List.take_succ_eq_append_getElem (by rw [HM.out]; exact hlt2), ← hxk.out, List.getD_eq_getElem?_getD, List.getElem?_eq_getElem (by rw [HM.out]; exact hlt2)]
                    rfl
                  have LT : Hid ((rT L i ++ kT H A p ++ D.K.take k).length ≤ 1000) := by
                    show _ ≤ 1000
                    rw [List.length_append, List.length_append, List.length_take]
                    have := KL.out
                    have := RL.out
                    omega
                  obtain ⟨y1, y1f, y2⟩ := bump (x := j) ho2.out hx50
                  obtain ⟨cc, hcc⟩ : ∃ cc, List.count ((j : Nat) : Int) (rT L i ++ kT H A p ++ D.K.take k) = cc := ⟨_, rfl⟩
                  have hcl : cc ≤ 1000 := by rw [← hcc]; exact Nat.le_trans List.count_le_length LT.out
                  rw [hcc] at y1 y2
                  have N1 : Hid (Below w.heap.size w (wr.setCell ⟨w2.heap.size, j, none⟩ (.int .i64 ((cc : Int) + 1)))) := hb2.out.setCell (by show w.heap.size ≤ w2.heap.size; omega) _
                  have N2 : Hid (Box (wr.setCell ⟨w2.heap.size, j, none⟩ (.int .i64 ((cc : Int) + 1))) w.heap.size [.slice (some ⟨hbk, hof, none⟩) H.length c]) := hx2.out.other _ (by dsimp only; omega) _
                  have N3 : Hid (World.ownsRow (wr.setCell ⟨w2.heap.size, j, none⟩ (.int .i64 ((cc : Int) + 1))) w.heap.size 3 1 (.slice (some ⟨w2.heap.size, 0, none⟩) 50 50) 50 (cellsI (cntI (rT L i ++ kT H A p ++ D.K.take (k + 1))))) := by
                    have h9 := y2
                    rw [TN.out] at h9
                    exact h9
                  clear y2 hcc
                  clear hpx hx0 hx1 hb2 hx2 ho2
                  go_wp2_with fail
                  exact ⟨⟨k + 1, by omega, by go_num, N1.out, N2.out, N3.out⟩, by simp [intOf]; omega⟩
                · have FF : Hid (wr.ownsRow w.heap.size 3 1 (.slice (some ⟨w2.heap.size, 0, none⟩) 50 50) 50 (cellsI (cntI (rT L i ++ kT H A (p + 1))))) := by
                    have h9 := ho2.out
                    rw [List.take_of_length_le (by rw [HM.out]; omega), List.append_assoc] at h9
                    rw [KN.out]
                    exact h9
                  go_wp2_with fail
                  exact ⟨⟨p + 1, by omega, by go_num, hb2.out, hx2.out, FF.out⟩, by simp [intOf]; omega⟩
          · have hp50 : p = 50 := by omega
            subst hp50
            go_wp2_with fail
            go_ret2
            exact ⟨_, _, _, rfl, F.out, by rw [cntI_length]; exact ho.out, by rw [cntI_length]; exact Nat.le_refl _, hb.out⟩
end Go.Proofs.Ytmpaophegdeokaa
