/-
  Texts of the store, brought together: what the others do not hold. By an AI agent.
-/
import Derived.Test.YtnnimocaanofjaaGreatDoorSt01
import Derived.Test.YtnnimocaanofjaaGreatDoorSt02
import Derived.Test.YtnnimocaanofjaaGreatDoorSt03
import Derived.Test.YtnnimocaanofjaaGreatDoorSt04
import Derived.Test.YtnnimocaanofjaaGreatDoorSt05
import Derived.Test.YtnnimocaanofjaaGreatDoorSt06
import Derived.Test.YtnnimocaanofjaaGreatDoorSt07
import Derived.Test.YtnnimocaanofjaaGreatDoorSt08
import Derived.Test.YtnnimocaanofjaaGreatDoorSt09
import Derived.Test.YtnnimocaanofjaaGreatDoorSt10
import Derived.Test.YtnnimocaanofjaaGreatDoorSt11
import Derived.Test.YtnnimocaanofjaaGreatDoorSt12
import Derived.Test.YtnnimocaanofjaaGreatDoorSt13
import Derived.Test.YtnnimocaanofjaaGreatDoorSt14
import Derived.Test.YtnnimocaanofjaaGreatDoorSt15
import Derived.Test.YtnnimocaanofjaaGreatDoorSt16
import Derived.Test.YtnnimocaanofjaaGreatDoorSt17
import Derived.Test.YtnnimocaanofjaaGreatDoorSt18
import Derived.Test.YtnnimocaanofjaaGreatDoorSt19
import Derived.Test.YtnnimocaanofjaaGreatDoorSt20
import Derived.Test.YtnnimocaanofjaaGreatDoorSt21
import Derived.Test.YtnnimocaanofjaaGreatDoorSt22
import Derived.Test.YtnnimocaanofjaaGreatDoorSt23
import Derived.Test.YtnnimocaanofjaaGreatDoorSt24
import Derived.Test.YtnnimocaanofjaaGreatDoorSt25
import Derived.Test.YtnnimocaanofjaaGreatDoorSt26
import Derived.Test.YtnnimocaanofjaaGreatDoorSt27
import Derived.Test.YtnnimocaanofjaaGreatDoorSt28
import Derived.Test.YtnnimocaanofjaaGreatDoorSt29
import Derived.Test.YtnnimocaanofjaaGreatDoorSt30
import Derived.Test.YtnnimocaanofjaaGreatDoorSt31
import Derived.Test.YtnnimocaanofjaaGreatDoorSt32
import Derived.Test.YtnnimocaanofjaaGreatDoorSt33
import Derived.Test.YtnnimocaanofjaaGreatDoorSt34
import Derived.Test.YtnnimocaanofjaaGreatDoorSt35
import Derived.Test.YtnnimocaanofjaaGreatDoorSt36
import Derived.Test.YtnnimocaanofjaaGreatDoorSt37
import Derived.Test.YtnnimocaanofjaaGreatDoorSt38
import Derived.Test.YtnnimocaanofjaaGreatDoorSt39
import Derived.Test.YtnnimocaanofjaaGreatDoorSt40
import Derived.Test.YtnnimocaanofjaaGreatDoorSt41
import Derived.Test.YtnnimocaanofjaaGreatDoorSt42
import Derived.Test.YtnnimocaanofjaaGreatDoorSt43
import Derived.Test.YtnnimocaanofjaaGreatDoorSt44
import Derived.Test.YtnnimocaanofjaaGreatDoorSt45
import Derived.Test.YtnnimocaanofjaaGreatDoorSt46
/-
  What a right store has: its pairs, its free pages, of both sides. By an AI agent.
-/
namespace Go.Proofs.YtnnimocaanofjaaGreatDoor
set_option linter.unusedSectionVars false
variable [DecidableEq NM]
open Go.ChangeShapes Go.WideShapes Go.ChangeAt Go.RowKit Go.Deep
set_option linter.unusedVariables false
set_option linter.unusedSimpArgs false
set_option maxRecDepth 100000

theorem store_true {D : DM} {U : UM} {H : List NM} (h : storeB D U H = true) : ∃ A, diskK D ∧ okU U = true ∧ allF (pagesM (D.S.drop 2)) (rootsU U) st0.R = some A ∧ keepH A (pagesM (D.S.drop 2)) = H ∧ allF H (rootsU U) st0.R = some A ∧ A.length = 50 ∧ openM D = (0, some (U, A)) := by
  by_cases hd : diskK D
  · cases hX : newestM (supAt D 0) (supAt D 1) with
    | none => rw [store_none hd hX] at h; cases h
    | some X =>
      have hXU : X = U := by
        by_cases e : X = U
        · exact e
        · rw [store_other hd hX e] at h; cases h
      subst hXU
      have hok := new_ok hd hX
      rw [store_same hd hX] at h
      cases hA : allF (pagesM (D.S.drop 2)) (rootsU X) st0.R with
      | none => rw [hA] at h; cases h
      | some A =>
        rw [hA] at h
        have hk : keepH A (pagesM (D.S.drop 2)) = H := of_decide_eq_true h
        have hag := allG_pages hd
        have hA2 : allF (allG (pageAt D)) (rootsU X) st0.R = some A := by rw [hag]; exact hA
        have h9 := (load_yes (roots_ok hok) hA2 (Nat.le_refl _)).2
        rw [hag, hk] at h9
        have hl := (all_facts _ _ _ hA st0_len).1
        refine ⟨A, hd, hok, rfl, hk, h9, hl, ?_⟩
        unfold openM
        rw [if_neg (by rintro (h1 | h1 | h1); exact h1 hd.1; exact h1 hd.2.1; have := hd.2.2; omega), new_of hd, hX]
        simp only
        rw [hA]
  · rw [store_closed hd] at h; cases h
/-- The free pages of a store, and the code. -/
def fpA (D : DM) (U : UM) (H : List NM) : Int × Int := if storeB D U H = true then (match allF H (rootsU U) st0.R with
  | none => (0, 1)
  | some A => ((((A.filter fun b => !b).length : Nat) : Int), 0)) else (0, 1)

end Go.Proofs.YtnnimocaanofjaaGreatDoor

/-
  How many pages of a store are free, of both sides. By an AI agent.
-/
namespace Go.Proofs.YtnnimocaanofjaaGreatDoor
set_option linter.unusedSectionVars false
variable [DecidableEq NM]
open Go.ChangeShapes Go.WideShapes Go.ChangeAt Go.RowKit Go.Deep
set_option linter.unusedVariables false
set_option linter.unusedSimpArgs false
set_option maxRecDepth 100000

def frN (A : List Bool) (k : Nat) : Nat := ((A.take k).filter fun b => !b).length
theorem frN_step (A : List Bool) (k : Nat) (h : k < A.length) : frN A (k + 1) = frN A k + (if A.getD k false = true then 0 else 1) := by
  unfold frN
  rw [List.take_succ_eq_append_getElem h, List.filter_append, List.length_append, List.getD_eq_getElem?_getD, List.getElem?_eq_getElem h]
  cases A[k] <;> rfl
theorem frN_all (A : List Bool) (h : A.length = 50) : frN A 50 = (A.filter fun b => !b).length := by
  unfold frN
  rw [List.take_of_length_le (by omega)]
theorem bitFp (b : Bool) (w : World) : Calls Tryz.prog 70 #[.bool b] w fun e w' => e = .returned (.int .i64 (if b = true then 1 else 0)) ∧ w' = w := by
  cases b
  · go_enter Tryz.func70, Tryz.ntmps70
    go_wp2_with fail
    go_ret
    exact ⟨rfl, rfl⟩
  · go_enter Tryz.func70, Tryz.ntmps70
    go_wp2_with fail
    go_ret
    exact ⟨rfl, rfl⟩

set_option maxHeartbeats 4000000 in
theorem implFreePages (a1 a2 a3 sa ha : Option Addr) (n1 c1 n2 c2 n3 c3 k sc m hc : Nat) (AA : Bool) (G' R' : Int) (D : DM) (U : UM) (H : List NM) (w : World) (hH : HasHalf w) (h : StoreIn w a1 a2 a3 sa ha n1 c1 n2 c2 n3 c3 k sc m hc AA G' R' D U H) :
    Calls Tryz.prog 27 #[.agg #[.slice a1 n1 c1, .slice a2 n2 c2, .bool AA, .slice a3 n3 c3, .int .i64 G', .int .i64 R', .slice sa k sc, .slice ha m hc]] w fun e w' => ∃ f q, e = .returned (.tuple #[.int .i64 f, .int .i64 q]) ∧ fpA D U H = (f, q) ∧ Below w.heap.size w w' := by
  have HI : Hid (StoreIn w a1 a2 a3 sa ha n1 c1 n2 c2 n3 c3 k sc m hc AA G' R' D U H ∧ HasHalf w) := ⟨h, hH⟩
  clear h hH
  have A0 : Hid (∀ o, Below w.heap.size w (w.alloc o)) := fun o => (Below.refl _ _).alloc (Nat.le_refl _) _
  have h9 := HI.out.1.below (A0.out (.cells #[.slice a1 n1 c1, .slice a2 n2 c2, .bool AA, .slice a3 n3 c3, .int .i64 G', .int .i64 R', .slice sa k sc, .slice ha m hc] 47))
  have HJ : Hid (StoreIn (w.alloc (.cells #[.slice a1 n1 c1, .slice a2 n2 c2, .bool AA, .slice a3 n3 c3, .int .i64 G', .int .i64 R', .slice sa k sc, .slice ha m hc] 47)) a1 a2 a3 sa ha n1 c1 n2 c2 n3 c3 k sc m hc AA G' R' D U H) := h9
  clear h9
  go_enter Tryz.func27, Tryz.ntmps27
  go_wp2_with fail
  refine (volumeOfI a1 a2 a3 sa ha n1 c1 n2 c2 n3 c3 k sc m hc AA G' R' D U H _ HJ.out.small HJ.out.lens HJ.out.cap HJ.out.disk HJ.out.secs (HI.out.2.below (A0.out _)) HJ.out.sup HJ.out.snaps HJ.out.nodes HJ.out.nlens HJ.out.heap).mono ?_
  rintro e w1 ⟨p, b, rfl, hb0, hb1, hopen⟩
  have B1 : Hid (Below w.heap.size w w1) := Below.new hb1
  clear hb1
  cases b with
  | false =>
    have F : Hid (fpA D U H = (0, 1)) := by show _ = _; unfold fpA; rw [if_neg (by rw [hb0]; decide)]
    clear hopen hb0
    dsimp only
    go_wp2_with fail
    go_ret2
    exact ⟨_, _, rfl, F.out, B1.out⟩
  | true =>
    obtain ⟨B, X, A, rfl, ho, hat⟩ := hopen rfl
    obtain ⟨A', _, _, _, hk', hall, hl', ho'⟩ := store_true hb0
    rw [ho] at ho'
    simp only [Prod.mk.injEq, Option.some.injEq, true_and] at ho'
    obtain ⟨rfl, rfl⟩ := ho'
    have F : Hid (fpA D X H = (((frN A 50 : Nat) : Int), 0)) := by show _ = _; unfold fpA; rw [if_pos hb0, hall, frN_all A hl']
    have LA : Hid (A.length = 50) := hl'
    obtain ⟨g, r, na, nk, nc, u, t1, t2, t3, t4, t5⟩ := hat
    have RG : Hid (w1.rangeAt B 8 (A.map Value.bool)) := fun j v hv => by
      have h9 := (t1 (8 + j) v (by rw [List.getElem?_append_right (by simp), ← hv]; congr 1; simp)).1
      exact h9
    have HP : Hid ((Tryz.prog.info? 104).map (·.size) = some (A.map Value.bool).length) := by show _ = _; rw [List.length_map, LA.out]; kernel_rfl
    clear t1 t2 t3 t4 t5 hk' ho hopen hb0 hall hl'
    dsimp only
    go_wp2_with (refine wpList_load_mid rfl 104 _ rfl B 8 rfl (A.map Value.bool) _ RG.out Tryz.underlying104 rfl HP.out ?_)
    obtain ⟨arr, harr⟩ : ∃ arr, (List.map Value.bool A).toArray = arr := ⟨_, rfl⟩
    have AR : Hid (∀ k, k < 50 → arr[k]? = some (.bool (A.getD k false))) := fun k hk => by
      rw [← harr]
      have hj : k < A.length := by rw [LA.out]; exact hk
      simp [List.getElem?_eq_getElem hj]
    rw [harr]
    clear harr
    go_loopw [6, 20] (fun ov i wr => ∃ (k f : Nat), k ≤ 50 ∧ f ≤ k ∧ ov = .int .i64 f ∧ i = .int .i64 k ∧ Hid (frN A k = f) ∧ Hid (Below w.heap.size w wr)) (fun _ i _ => 50 - (intOf i).toNat)
    case atStart => exact ⟨0, 0, by omega, by omega, rfl, rfl, rfl, B1.out⟩
    case round =>
      obtain ⟨k, f, hk, hfk, rfl, rfl, hf, hb⟩ := hrel
      by_cases hlt : k < 50
      · have hai := AR.out k hlt
        have hki : (k : Int) < 50 := by omega
        have hk0 : (0 : Int) ≤ (k : Int) := by omega
        obtain ⟨bb, hbb⟩ : ∃ bb, A.getD k false = bb := ⟨_, rfl⟩
        rw [hbb] at hai
        have hix := run_index_PS arr k bb hlt hai
        have ST : Hid (frN A (k + 1) = f + (if bb = true then 0 else 1)) := by show _ = _; rw [frN_step A k (by rw [LA.out]; exact hlt), hf.out, hbb]
        clear hbb hai
        cases bb with
        | true =>
          go_wp2_with fail
          exact ⟨⟨k + 1, f, by omega, by omega, rfl, by go_num, by show _ = _; rw [ST.out]; rfl, hb⟩, by simp [intOf]; omega⟩
        | false =>
          go_wp2_with fail
          exact ⟨⟨k + 1, f + 1, by omega, by omega, by go_num, by go_num, by show _ = _; rw [ST.out]; rfl, hb⟩, by simp [intOf]; omega⟩
      · have hkn : k = 50 := by omega
        have F2 : Hid (fpA D X H = ((f : Int), 0)) := by show _ = _; rw [F.out, ← hf.out, hkn]
        have hki : ¬ (k : Int) < 50 := by omega
        clear hkn
        go_wp2_with fail
        go_ret2
        exact ⟨_, _, rfl, F2.out, hb.out⟩

set_option maxHeartbeats 4000000 in
theorem specFreePages (a1 a2 a3 sa ha : Option Addr) (n1 c1 n2 c2 n3 c3 k sc m hc : Nat) (AA : Bool) (G' R' : Int) (D : DM) (U : UM) (H : List NM) (w : World) (hsm : smallH H) (h : StoreIn w a1 a2 a3 sa ha n1 c1 n2 c2 n3 c3 k sc m hc AA G' R' D U H) :
    Calls Tryz.prog 26 #[.agg #[.slice a1 n1 c1, .slice a2 n2 c2, .bool AA, .slice a3 n3 c3, .int .i64 G', .int .i64 R', .slice sa k sc, .slice ha m hc]] w fun e w' => ∃ f q, e = .returned (.tuple #[.int .i64 f, .int .i64 q]) ∧ fpA D U H = (f, q) ∧ Below w.heap.size w w' := by
  have HI : Hid (StoreIn w a1 a2 a3 sa ha n1 c1 n2 c2 n3 c3 k sc m hc AA G' R' D U H ∧ smallH H) := ⟨h, hsm⟩
  clear h hsm
  have A0 : Hid (∀ o, Below w.heap.size w (w.alloc o)) := fun o => (Below.refl _ _).alloc (Nat.le_refl _) _
  go_enter Tryz.func26, Tryz.ntmps26
  go_wp2_with fail
  refine (specStoreOK a1 a2 a3 sa ha n1 c1 n2 c2 n3 c3 k sc m hc AA G' R' D U H _ (HI.out.1.below (A0.out _))).mono ?_
  obtain ⟨b, hb⟩ : ∃ b, storeB D U H = b := ⟨_, rfl⟩
  rw [hb]
  rintro e w1 ⟨rfl, hb1⟩
  have B1 : Hid (Below w.heap.size w w1) := Below.new hb1
  have X1 : Hid (Box w1 w.heap.size [.slice a1 n1 c1, .slice a2 n2 c2, .bool AA, .slice a3 n3 c3, .int .i64 G', .int .i64 R', .slice sa k sc, .slice ha m hc]) := Box.below (Box.new rfl) hb1
  clear hb1
  cases b with
  | false =>
    have F : Hid (fpA D U H = (0, 1)) := by show _ = _; unfold fpA; rw [if_neg (by rw [hb]; decide)]
    clear hb
    go_wp2_with fail
    go_ret2
    exact ⟨_, _, rfl, F.out, B1.out⟩
  | true =>
    obtain ⟨A, _, hok, _, _, hall, hl, _⟩ := store_true hb
    have F : Hid (fpA D U H = (((frN A 50 : Nat) : Int), 0)) := by show _ = _; unfold fpA; rw [if_pos hb, hall, frN_all A hl]
    have LA : Hid (A.length = 50) := hl
    obtain ⟨L, hL⟩ : ∃ L, rootsU U = L := ⟨_, rfl⟩
    have EL : Hid (rootsU U = L) := hL
    have LL : Hid (1 ≤ L.length ∧ L.length ≤ 5 ∧ U.S.length ≤ 4) := by
      have h4 := okU_len hok
      rw [← hL, rootsU_length]
      exact ⟨by omega, by omega, h4⟩
    have HA : Hid (allF H L st0.R = some A) := by rw [← hL]; exact hall
    clear hb hok hall hl hL
    have HRO : Hid (∀ W, Below w.heap.size w W → Calls Tryz.prog 69 #[.agg #[.int .i64 G', .int .i64 R', .slice sa k sc]] W fun e w' => ∃ q d, e = .returned (.slice (some ⟨q, 0, none⟩) L.length d) ∧ Src w' (some ⟨q, 0, none⟩) (cellsI L) ∧ Below W.heap.size W w') := fun W hW => by
      refine (specRoots _ U _ (by have := LL.out.2.2; omega) (HI.out.1.super.below hW)).mono ?_
      rw [EL.out]
      rintro e w2 ⟨u2, rfl, own2, hb2⟩
      obtain ⟨q, d, rfl⟩ := own_someT own2 (by have := LL.out.1; omega)
      obtain ⟨a9, c9, e9, s9, _⟩ := own_src own2
      cases e9
      exact ⟨q, d, rfl, s9, hb2⟩
    have HRE : Hid (∀ W q d, Below w.heap.size w W → Src W (some ⟨q, 0, none⟩) (cellsI L) → Calls Tryz.prog 68 #[.agg #[.slice ha m hc], .slice (some ⟨q, 0, none⟩) L.length d] W fun e w' => ∃ g d, e = .returned (.tuple #[.slice (some ⟨g, 0, none⟩) 50 d, .bool true]) ∧ Src w' (some ⟨g, 0, none⟩) (A.map Value.bool) ∧ Below W.heap.size W w') := fun W q d hW hS => by
      refine (l03Reached _ H _ _ d L W HI.out.2 (HI.out.1.heapH.below hW) rfl (by have := LL.out.2.1; omega) hS).mono ?_
      rintro e w' ⟨hb, (⟨h1, u, rfl⟩ | ⟨A2, u, h1, h2, rfl, o2⟩)⟩
      · rw [HA.out] at h1; cases h1
      · rw [HA.out] at h1
        cases h1
        obtain ⟨q, d, rfl⟩ := own_someT o2 (by omega)
        obtain ⟨a9, c9, e9, s9, _⟩ := own_src o2
        cases e9
        exact ⟨q, d, rfl, s9, hb⟩
    obtain ⟨y4, _⟩ := X1.out 4 _ rfl
    obtain ⟨y5, _⟩ := X1.out 5 _ rfl
    obtain ⟨y6, _⟩ := X1.out 6 _ rfl
    obtain ⟨y7, _⟩ := X1.out 7 _ rfl
    have BD : Hid (Below w.heap.size w w1.drew) := B1.out.drew
    go_wp2_with fail
    go_cut [4] from 12 to 19 (fun t9 wx => ∃ g d, t9 = .slice (some ⟨g, 0, none⟩) 50 d ∧ Hid (Src wx (some ⟨g, 0, none⟩) (A.map Value.bool)) ∧ Hid (Below w.heap.size w wx))
    case first =>
      go_region_with (first | (go_at_call 68; refine (HRE.out _ q7 d7 BW7.out S7.out).mono ?_; rintro e w8 ⟨g8, d8, rfl, s8, hb8⟩; have S8 : Hid (Src w8 (some ⟨g8, 0, none⟩) (A.map Value.bool)) := s8; have BW8 : Hid (Below w.heap.size w w8) := BW7.out.trans (hb8.mono BW7.out.size); clear s8 hb8) | (go_at_call 69; refine (HRO.out _ BD.out).mono ?_; rintro e w7 ⟨q7, d7, rfl, s7, hb7⟩; have S7 : Hid (Src w7 (some ⟨q7, 0, none⟩) (cellsI L)) := s7; have BW7 : Hid (Below w.heap.size w w7) := BD.out.trans (hb7.mono BD.out.size); have y77 := (X1.out.drew.below hb7 7 _ rfl).1; clear hb7 s7))
      all_goals go_wp2_with fail
      all_goals go_meet
      all_goals exact ⟨g8, d8, rfl, S8, BW8⟩
    case rest =>
    obtain ⟨g9, d9, rfl, SR, BR⟩ := hcut
    clear HRO HRE BD y4 y5 y6 y7 X1 B1
    go_wp2_with fail
    go_loopw [6, 7] (fun ov i wr => ∃ (k f : Nat), k ≤ 50 ∧ f ≤ k ∧ ov = .int .i64 f ∧ i = .int .i64 k ∧ Hid (frN A k = f) ∧ Hid (wr = wc)) (fun _ i _ => 50 - (intOf i).toNat)
    case atStart => exact ⟨0, 0, by omega, by omega, rfl, rfl, rfl, rfl⟩
    case round =>
      obtain ⟨k9, f, hk, hfk, rfl, rfl, hf, hwr⟩ := hrel
      obtain rfl := hwr.out
      by_cases hlt : k9 < 50
      · have hki : (k9 : Int) < 50 := by omega
        have hk0 : (0 : Int) ≤ (k9 : Int) := by omega
        obtain ⟨bb, hbb⟩ : ∃ bb, A.getD k9 false = bb := ⟨_, rfl⟩
        have hce : wr.cell? ⟨g9, k9, none⟩ = some (.bool bb) := by
          rcases SR.out with h0 | ⟨b0, o0, e0, hc0⟩
          · have := congrArg List.length h0
            rw [List.length_map, LA.out] at this
            cases this
          · cases e0
            have h1 := hc0 k9 (by rw [List.length_map, LA.out]; exact hlt)
            rw [Nat.zero_add] at h1
            rw [h1, List.getD_eq_getElem?_getD, List.getElem?_map, List.getElem?_eq_getElem (by rw [LA.out]; exact hlt)]
            rw [List.getD_eq_getElem?_getD, List.getElem?_eq_getElem (by rw [LA.out]; exact hlt)] at hbb
            simpa using hbb
        have ST : Hid (frN A (k9 + 1) = f + (if bb = true then 0 else 1)) := by show _ = _; rw [frN_step A k9 (by rw [LA.out]; exact hlt), hf.out, hbb]
        clear hbb
        cases bb with
        | true =>
          go_wp2_with (go_at_call 70; refine (bitFp _ _).mono ?_; rintro e w9 ⟨rfl, rfl⟩)
          exact ⟨⟨k9 + 1, f, by omega, by omega, by go_num, by go_num, by show _ = _; rw [ST.out]; rfl, trivial⟩, by simp [intOf]; omega⟩
        | false =>
          go_wp2_with (go_at_call 70; refine (bitFp _ _).mono ?_; rintro e w9 ⟨rfl, rfl⟩)
          exact ⟨⟨k9 + 1, f + 1, by omega, by omega, by go_num, by go_num, by show _ = _; rw [ST.out]; rfl, trivial⟩, by simp [intOf]; omega⟩
      · have hkn : k9 = 50 := by omega
        have F2 : Hid (fpA D U H = ((f : Int), 0)) := by show _ = _; rw [F.out, ← hf.out, hkn]
        have hki : ¬ (k9 : Int) < 50 := by omega
        clear hkn
        go_wp2_with fail
        go_ret2
        exact ⟨_, _, rfl, F2.out, BR.out⟩
end Go.Proofs.YtnnimocaanofjaaGreatDoor

