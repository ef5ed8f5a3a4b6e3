
/-
  The pages that several trees reach. By an AI agent.
-/
import Derived.Test.YtmpaophegdeokaaTr8
import Derived.Test.YtmpaophegdeokaaLists1
namespace Go.Proofs.Ytmpaophegdeokaa
open Go.ChangeShapes Go.WideShapes Go.ChangeAt Go.RowKit Go.Deep
set_option linter.unusedVariables false
set_option maxRecDepth 100000
def orB (A R : List Bool) : List Bool := List.zipWith (· || ·) A R
def allF (H : List NM) : List Int → List Bool → Option (List Bool)
  | [], A => some A
  | r :: rs, A => match treeF H r with
    | none => none
    | some s => allF H rs (orB A s.R)
theorem orB_length {A R : List Bool} (hA : A.length = 50) (hR : R.length = 50) : (orB A R).length = 50 := by
  unfold orB; rw [List.length_zipWith, hA, hR]; rfl
theorem orB_get {A R : List Bool} {k : Nat} (hA : A.length = 50) (hR : R.length = 50) (hk : k < 50) : (orB A R)[k]? = some (A.getD k false || R.getD k false) := by
  unfold orB
  rw [List.getElem?_zipWith, List.getElem?_eq_getElem (by omega), List.getElem?_eq_getElem (by omega), List.getD_eq_getElem?_getD, List.getD_eq_getElem?_getD, List.getElem?_eq_getElem (by omega), List.getElem?_eq_getElem (by omega)]
  rfl
theorem drop_int {L : List Int} {i : Nat} (h : i < L.length) : L.drop i = L.getD i 0 :: L.drop (i + 1) := by
  rw [List.drop_eq_getElem_cons h, List.getD_eq_getElem?_getD, List.getElem?_eq_getElem h]; rfl
theorem all_step {H : List NM} {L : List Int} {i : Nat} {A : List Bool} (h : i < L.length) : allF H (L.drop i) A = match treeF H (L.getD i 0) with | none => none | some s => allF H (L.drop (i + 1)) (orB A s.R) := by
  rw [drop_int h]; rfl
theorem l03WalkE (v : Value) (H : List NM) (root : Int) (w : World) (hsm : smallH H) (h : ReadsH w v H) :
    Calls Try.prog 128 #[v, .int .i64 root] w fun e w' => ∃ v1 v2 ok, e = .returned (.tuple #[v1, v2, .bool ok]) ∧ Below w.heap.size w w' ∧ (ok = false → treeF H root = none) ∧ (ok = true → ∃ s, treeF H root = some s ∧ s.R.length = 50 ∧ w'.ownsRow w.heap.size 4 1 v2 50 (s.R.map Value.bool)) := by
  refine (l03Walk v H root w hsm h).mono ?_
  rintro e w' ⟨hb, (⟨h1, v1, v2, rfl⟩ | ⟨s, v1, v2, h1, rfl, _, row, good, _⟩)⟩
  · exact ⟨v1, v2, false, rfl, hb, fun _ => h1, fun e => by cases e⟩
  · exact ⟨v1, v2, true, rfl, hb, (fun e => by cases e), fun _ => ⟨s, h1, good.1, row⟩⟩
def mixB (A R : List Bool) (k : Nat) : List Bool := (orB A R).take k ++ A.drop k
theorem mix_length {A R : List Bool} {k : Nat} (hA : A.length = 50) (hR : R.length = 50) : (mixB A R k).length = 50 := by
  unfold mixB; rw [List.length_append, List.length_take, List.length_drop, orB_length hA hR, hA]; omega
theorem mix_get {A R : List Bool} {k : Nat} (hA : A.length = 50) (hR : R.length = 50) (hk : k < 50) : (mixB A R k).getD k false = A.getD k false := by
  unfold mixB
  rw [List.getD_eq_getElem?_getD, List.getElem?_append_right (by rw [List.length_take, orB_length hA hR]; omega), List.length_take, orB_length hA hR, List.getElem?_drop, List.getD_eq_getElem?_getD]
  congr 2
  omega
theorem mix_next {A R : List Bool} {k : Nat} (hA : A.length = 50) (hR : R.length = 50) (hk : k < 50) : (mixB A R k).set k (A.getD k false || R.getD k false) = mixB A R (k + 1) := by
  unfold mixB
  rw [List.set_append_right _ _ (by rw [List.length_take, orB_length hA hR]; omega)]
  have e1 : k - ((orB A R).take k).length = 0 := by rw [List.length_take, orB_length hA hR]; omega
  rw [e1, List.drop_eq_getElem_cons (by omega), List.set_cons_zero, List.take_add_one, orB_get hA hR hk]
  simp
theorem mix_end {A R : List Bool} (hA : A.length = 50) (hR : R.length = 50) : mixB A R 50 = orB A R := by
  unfold mixB
  rw [List.take_of_length_le (by rw [orB_length hA hR]; omega), List.drop_eq_nil_of_le (by omega), List.append_nil]
theorem own_some {w : World} {base e z n : Nat} {v : Value} {xs : List Value} (h : w.ownsRow base e z v n xs) (hn : 0 < n) : ∃ g c, v = .slice (some ⟨g, 0, none⟩) n c := by
  rcases h with ⟨hl, ⟨rfl, h0⟩ | ⟨g, cap, cur, rfl, _⟩⟩
  · omega
  · exact ⟨g, cap, rfl⟩
theorem map_at {R : List Bool} {k : Nat} (h : k < R.length) : (R.map Value.bool)[k]? = some (.bool (R.getD k false)) := by
  rw [List.getElem?_map, List.getElem?_eq_getElem h, List.getD_eq_getElem?_getD, List.getElem?_eq_getElem h]; rfl
set_option maxHeartbeats 2000000 in
theorem l03Reached (v : Value) (H : List NM) (ra : Option Addr) (n rc : Nat) (L : List Int) (w : World) (hsm : smallH H) (h : ReadsH w v H) (hL : L.length = n) (hn : n ≤ 1048576) (hs : Src w ra (cellsI L)) :
    Calls Try.prog 102 #[v, .slice ra n rc] w fun e w' => Below w.heap.size w w' ∧ ((allF H L st0.R = none ∧ ∃ u, e = .returned (.tuple #[u, .bool false])) ∨ ∃ A u, allF H L st0.R = some A ∧ A.length = 50 ∧ e = .returned (.tuple #[u, .bool true]) ∧ w'.ownsRow w.heap.size 4 1 u 50 (A.map Value.bool)) := by
  obtain ⟨a, c, rfl, hr⟩ := h
  have HR : Hid (ReadsH w (.agg #[.slice a H.length c]) H) := ⟨a, c, rfl, hr⟩
  have HS : Hid (smallH H) := hsm
  have HL : Hid (L.length = n) := hL
  have HC : Hid (Src w ra (cellsI L)) := hs
  have hmk := run_make_Bo
  clear hr hsm hL hs
  go_enter Try.func102, Try.ntmps102
  go_wp2_with fail
  clear hmk
  have OB : (Hid (World.ownsRow ((w.alloc (.cells #[.slice a H.length c] 72)).alloc (.cells (madeCells #[.bool false] 50) 4)) w.heap.size 4 1 (.slice (some ⟨w.heap.size + 1, 0, none⟩) 50 50) 50 (st0.R.map Value.bool))) := by
    have := own_pages (w.alloc (.cells #[.slice a H.length c] 72)) w.heap.size (by simp)
    rw [World.size_alloc] at this
    exact this
  go_loopw [7] (fun iv wr => ∃ (i : Nat) (A : List Bool), i ≤ n ∧ iv = .int .i64 i ∧ Hid (A.length = 50) ∧ Hid (allF H L st0.R = allF H (L.drop i) A) ∧ Hid (Below w.heap.size w wr) ∧ Hid (Box wr w.heap.size [.slice a H.length c]) ∧ Hid (wr.ownsRow w.heap.size 4 1 (.slice (some ⟨w.heap.size + 1, 0, none⟩) 50 50) 50 (A.map Value.bool))) (fun i _ => n - (intOf i).toNat)
  case atStart => exact ⟨0, st0.R, by omega, rfl, by show _ = _; rfl, rfl, ((Below.refl _ _).alloc (Nat.le_refl _) _).alloc (by simp) _, (Box.new rfl).old _, OB.out⟩
  case round =>
    obtain ⟨i, A, hi, rfl, hA, hall, hb, hx, ho⟩ := hrel
    by_cases hlt : i < n
    · obtain ⟨rb, o, r, rfl, hc1, HRT⟩ := srcI (HC.out.below hb.out) (i := i) (by rw [HL.out]; exact hlt)
      have hii : (i : Int) < (n : Int) := by omega
      have hi0 : (0 : Int) ≤ (i : Int) := by omega
      have ST : Hid (allF H (L.drop i) A = match treeF H r with | none => none | some s => allF H (L.drop (i + 1)) (orB A s.R)) := by show _ = _; rw [all_step (by rw [HL.out]; exact hlt), HRT.out]
      obtain ⟨p0, _⟩ := hx.out 0 _ rfl
      go_wp2_with fail
      go_region_with (go_at_call 128; refine (l03WalkE _ H r _ HS.out (HR.out.below hb.out.drew)).mono ?_; rintro e w1 ⟨v1, v2, ok, rfl, hb1, g1, g2⟩)
      all_goals
        have B1 : Hid (Below w.heap.size w w1) := hb.out.drew.trans (hb1.mono hb.out.size)
        have X1 : Hid (Box w1 w.heap.size [.slice a H.length c]) := hx.out.drew.below hb1
        have O1 : Hid (w1.ownsRow w.heap.size 4 1 (.slice (some ⟨w.heap.size + 1, 0, none⟩) 50 50) 50 (A.map Value.bool)) := own_below (own_below ho.out (Below.refl _ _).drew) hb1
        have G1 : Hid (ok = false → treeF H r = none) := g1
        have G2 : Hid (ok = true → ∃ s, treeF H r = some s ∧ s.R.length = 50 ∧ w1.ownsRow wr.heap.size 4 1 v2 50 (s.R.map Value.bool)) := g2
        obtain ⟨z, hz⟩ : ∃ z, wr.heap.size = z := ⟨_, rfl⟩
        have ZZ : Hid (w.heap.size + 1 < z) := by show _ < z; rw [← hz]; exact (ho.out.lt (w.heap.size + 1) rfl).2
        rw [hz] at G2
        clear g1 g2 hb1 hb hx ho p0 hc1 hz
        cases ok with
        | false =>
          have F : Hid (allF H L st0.R = none) := by show _ = _; rw [hall.out, ST.out, G1.out rfl]
          go_wp2_with fail
          go_ret2
          exact ⟨B1.out, .inl ⟨F.out, _, rfl⟩⟩
        | true =>
          obtain ⟨s, hs, hR, row⟩ := G2.out rfl
          obtain ⟨g, gc, rfl⟩ := own_some row (by omega)
          have F : Hid (allF H L st0.R = allF H (L.drop (i + 1)) (orB A s.R)) := by show _ = _; rw [hall.out, ST.out, hs]
          have RL : Hid (s.R.length = 50) := hR
          have RW : Hid (w1.ownsRow z 4 1 (.slice (some ⟨g, 0, none⟩) 50 gc) 50 (s.R.map Value.bool)) := row
          clear hs hR row
          go_wp2_with fail
          go_loopw [11] (fun kv wr => ∃ k : Nat, k ≤ 50 ∧ kv = .int .i64 k ∧ Hid (Below w.heap.size w wr) ∧ Hid (Box wr w.heap.size [.slice a H.length c]) ∧ Hid (wr.ownsRow w.heap.size 4 1 (.slice (some ⟨w.heap.size + 1, 0, none⟩) 50 50) 50 ((mixB A s.R k).map Value.bool)) ∧ Hid (wr.ownsRow z 4 1 (.slice (some ⟨g, 0, none⟩) 50 gc) 50 (s.R.map Value.bool))) (fun i _ => 50 - (intOf i).toNat)
          case atStart => exact ⟨0, by omega, rfl, B1.out, X1.out, by show World.ownsRow _ _ _ _ _ _ ((mixB A s.R 0).map Value.bool); exact O1.out, RW.out⟩
          case round =>
            obtain ⟨k, hk, rfl, hb2, hx2, ho2, hr2⟩ := hrel
            by_cases hlt2 : k < 50
            · have hki : (k : Int) < 50 := by omega
              have hk0 : (0 : Int) ≤ (k : Int) := by omega
              obtain ⟨y1, y1f⟩ := own_at ho2.out (map_at (R := mixB A s.R k) (k := k) (by rw [mix_length hA.out RL.out]; exact hlt2))
              rw [mix_get hA.out RL.out hlt2] at y1
              obtain ⟨y2, _⟩ := own_at hr2.out (map_at (R := s.R) (k := k) (by rw [RL.out]; exact hlt2))
              obtain ⟨ba, hba⟩ : ∃ b, A.getD k false = b := ⟨_, rfl⟩
              obtain ⟨br, hbr⟩ : ∃ b, s.R.getD k false = b := ⟨_, rfl⟩
              rw [hba] at y1
              rw [hbr] at y2
              have NX : Hid ((mixB A s.R k).set k (ba || br) = mixB A s.R (k + 1)) := by show _ = _; rw [← hba, ← hbr]; exact mix_next hA.out RL.out hlt2
              have STEP : Hid (∀ b9 : Bool, b9 = (ba || br) → Below w.heap.size w (wr.setCell ⟨w.heap.size + 1, k, none⟩ (.bool b9)) ∧ Box (wr.setCell ⟨w.heap.size + 1, k, none⟩ (.bool b9)) w.heap.size [.slice a H.length c] ∧ (wr.setCell ⟨w.heap.size + 1, k, none⟩ (.bool b9)).ownsRow w.heap.size 4 1 (.slice (some ⟨w.heap.size + 1, 0, none⟩) 50 50) 50 ((mixB A s.R (k + 1)).map Value.bool) ∧ (wr.setCell ⟨w.heap.size + 1, k, none⟩ (.bool b9)).ownsRow z 4 1 (.slice (some ⟨g, 0, none⟩) 50 gc) 50 (s.R.map Value.bool)) := fun b9 e9 => by
                subst e9
                refine ⟨(hb2.out.setCell (by show w.heap.size ≤ w.heap.size + 1; omega) _), (hx2.out.other _ (by dsimp only; omega) _), ?_, ?_⟩
                · have h1 := own_set ho2.out k (by rw [List.length_map, mix_length hA.out RL.out]; exact hlt2) (.bool (ba || br))
                  rw [← List.map_set, NX.out] at h1
                  exact h1
                · exact own_setLow hr2.out (by dsimp only; exact ZZ.out) _
              clear hba hbr NX hb2 hx2 ho2 hr2
              cases ba with
              | true =>
                go_wp2_with fail
                all_goals
                  obtain ⟨n1, n2, n3, n4⟩ := STEP.out true rfl
                  exact ⟨⟨k + 1, by omega, by go_num, n1, n2, n3, n4⟩, by simp [intOf]; omega⟩
              | false =>
                go_wp2_with fail
                all_goals
                  obtain ⟨n1, n2, n3, n4⟩ := STEP.out br (by cases br <;> rfl)
                  exact ⟨⟨k + 1, by omega, by go_num, n1, n2, n3, n4⟩, by simp [intOf]; omega⟩
            · have hk50 : k = 50 := by omega
              have O2 : Hid (wr.ownsRow w.heap.size 4 1 (.slice (some ⟨w.heap.size + 1, 0, none⟩) 50 50) 50 ((orB A s.R).map Value.bool)) := by
                have h1 := ho2.out
                rw [hk50, mix_end hA.out RL.out] at h1
                exact h1
              clear hk50
              go_wp2_with fail
              exact ⟨⟨i + 1, orB A s.R, by omega, by go_num, orB_length hA.out RL.out, F.out, hb2.out, hx2.out, O2.out⟩, by simp [intOf]; omega⟩
    · have hin : i = n := by omega
      have F : Hid (allF H L st0.R = some A) := by show _ = _; rw [hall.out, List.drop_eq_nil_of_le (by rw [HL.out]; omega)]; rfl
      clear hin
      go_wp2_with fail
      go_ret2
      exact ⟨hb.out, .inr ⟨A, _, F.out, hA.out, rfl, ho.out⟩⟩
end Go.Proofs.Ytmpaophegdeokaa
