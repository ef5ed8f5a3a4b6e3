/-
  Texts of the store, brought together: Vof. By an AI agent.
-/
import Derived.Test.YtnnimocaanofjaaGreatDoorSq32
namespace Go.Proofs.YtnnimocaanofjaaGreatDoor
set_option linter.unusedSectionVars false
variable [DecidableEq NM]
open Go.ChangeShapes Go.WideShapes Go.ChangeAt Go.RowKit Go.Deep
set_option linter.unusedVariables false
set_option linter.unusedSimpArgs false
set_option maxRecDepth 100000
theorem tkA {P : Program} {md : Region.Mode} {ops : Array Oper} {Q : Exit → Act → World → Prop} {S : World → Prop} {i : Nat} {oi : Oper} {v : Value} {fuel : Nat} {listed : Array Bool} {a : Act} {w : World} (hy : ∀ w, S w → (execOp a.eval oi).run P w = .ok (.value v) w) (hS : S w) (h : wpAnyH P md ops Q S fuel (listed.setIfInBounds i true) (a.put oi.dst v) w)
    (hi : ops[i]? = some oi := by rfl) (hs : Region.noSelect ops = true := by kernel_rfl) (hf : Region.free md ops listed i = true := by kernel_rfl) (hr : (Region.ready md ops listed).contains i = true := by kernel_rfl) (hw : Region.wanted oi (yielded ops a.tmps) = true := by kernel_rfl) (hQ : ∀ c a w, Q (.panic c) (a.put oi.dst v) w → Q (.panic c) a w := by exact fun _ _ _ h => h) : wpAnyH P md ops Q S (fuel + 1) listed a w :=
  wpAnyH_take hi hs hf hr hQ (Or.inl ⟨hw, hy⟩) hS h
theorem skA {P : Program} {md : Region.Mode} {ops : Array Oper} {Q : Exit → Act → World → Prop} {S : World → Prop} {i : Nat} {oi : Oper} {fuel : Nat} {listed : Array Bool} {a : Act} {w : World} (hS : S w) (h : wpAnyH P md ops Q S fuel (listed.setIfInBounds i true) (a.put oi.dst undef) w)
    (hi : ops[i]? = some oi := by rfl) (hs : Region.noSelect ops = true := by kernel_rfl) (hf : Region.free md ops listed i = true := by kernel_rfl) (hr : (Region.ready md ops listed).contains i = true := by kernel_rfl) (hw : Region.wanted oi (yielded ops a.tmps) = false := by kernel_rfl) (hQ : ∀ c a w, Q (.panic c) (a.put oi.dst undef) w → Q (.panic c) a w := by exact fun _ _ _ h => h) : wpAnyH P md ops Q S (fuel + 1) listed a w :=
  wpAnyH_take hi hs hf hr hQ (Or.inr ⟨hw, rfl⟩) hS h
open List (setIfInBounds_toArray set_cons_zero set_cons_succ)
theorem open_len {D : DM} {V : UM} {A : List Bool} (h : openM D = (0, some (V, A))) : V.S.length ≤ 1048576 := by
  unfold openM at h
  split at h
  · cases h
  · split at h
    · cases h
    · rename_i U hU
      split at h
      · cases h
      · cases h
        have := newest_len hU
        omega
theorem keep_lens {A : List Bool} {S : List ByteArray} (h : ∀ x ∈ S, x.size ≤ 1048576) : ∀ N ∈ keepH A (pagesM S), lenN N := by
  have key : ∀ N, wtN N ≤ 100 → lenN N := fun N hN => by unfold wtN at hN; exact ⟨by omega, by omega, by omega⟩
  intro N hN
  unfold keepH at hN
  rw [List.mem_map] at hN
  obtain ⟨i, _, rfl⟩ := hN
  split
  · by_cases hi : i < (pagesM S).length
    · have hm := getD_memH (pagesM S) i hi
      unfold pagesM at hm
      rw [List.mem_map] at hm
      obtain ⟨x, _, e⟩ := hm
      have h9 := (read_small (bytesOf x) (bytesOf_lt x)).2
      rw [e] at h9
      exact key _ h9
    · rw [List.getD_eq_getElem?_getD, List.getElem?_eq_none (by omega)]
      exact key _ (by decide)
  · exact key _ (by decide)
theorem OpenAt.below {w w' : World} {lo B : Nat} {d0 d1 d2 d3 : Value} {D : DM} {U : UM} {A : List Bool} (h : OpenAt w lo B d0 d1 d2 d3 D U A) (hb : Below w.heap.size w w') : OpenAt w' lo B d0 d1 d2 d3 D U A := by
  obtain ⟨g, r, sa, k, sc, u, t1, t2, t3, t4, t5⟩ := h
  exact ⟨g, r, sa, k, sc, u, t1.below hb, t2.below hb, (t3.below hb).mono (Nat.le_refl _) hb.size, t4, t5⟩
def storeB (D : DM) (U : UM) (H : List NM) : Bool := match openM D with
  | (_, some (V, A)) => V.G == U.G && (V.R == U.R && (decide (V.S = U.S) && decide (keepH A (pagesM (D.S.drop 2)) = H)))
  | _ => false
set_option maxHeartbeats 40000000 in
theorem volumeOfI (a1 a2 a3 sa' ha : Option Addr) (n1 c1 n2 c2 n3 c3 k' sc' m hc : Nat) (AA : Bool) (G' R' : Int) (D : DM) (U : UM) (H : List NM) (w : World) (hs : smallD D) (hN : D.S.length = n1 ∧ D.C.length = n2 ∧ D.K.length = n3 ∧ D.A = AA) (hcp : n1 ≤ c1) (hr : ReadsD w (.agg #[.slice a1 n1 c1, .slice a2 n2 c2, .bool AA, .slice a3 n3 c3]) D) (s1 : Src w a1 (cellsS D.S)) (hH : HasHalf w)
    (hU : U.G = G' ∧ U.R = R' ∧ U.S.length = k' ∧ k' ≤ 1048576) (s2 : Src w sa' (cellsSn U.S)) (hm : H.length = m ∧ m ≤ 1048576) (hl : ∀ N ∈ H, lenN N) (s3 : ReadsHL w ha H) :
    Calls Tryz.prog 40 #[.agg #[.slice a1 n1 c1, .slice a2 n2 c2, .bool AA, .slice a3 n3 c3, .int .i64 G', .int .i64 R', .slice sa' k' sc', .slice ha m hc]] w fun e w' => ∃ p b, e = .returned (.tuple #[p, .bool b]) ∧ storeB D U H = b ∧ Below w.heap.size w w' ∧ (b = true → ∃ B V A, p = .pointer (some ⟨B, 0, none⟩) ∧ openM D = (0, some (V, A)) ∧ OpenAt w' w.heap.size B (.slice a1 n1 c1) (.slice a2 n2 c2) (.bool AA) (.slice a3 n3 c3) D V A) := by
  have HD : Hid (ReadsD w (.agg #[.slice a1 n1 c1, .slice a2 n2 c2, .bool AA, .slice a3 n3 c3]) D ∧ Src w a1 (cellsS D.S)) := ⟨hr, s1⟩
  have HS : Hid (smallD D) := hs
  have HN : Hid (D.S.length = n1 ∧ D.C.length = n2 ∧ D.K.length = n3 ∧ D.A = AA) := hN
  have HT : Hid (HasHalf w) := hH
  have HU : Hid (U.G = G' ∧ U.R = R' ∧ U.S.length = k' ∧ Src w sa' (cellsSn U.S)) := ⟨hU.1, hU.2.1, hU.2.2.1, s2⟩
  have hk1 := hU.2.2.2
  have HM : Hid (H.length = m ∧ (∀ N ∈ H, lenN N) ∧ ReadsHL w ha H) := ⟨hm.1, hl, s3⟩
  have hm1 := hm.2
  clear hr hs hN s1 hH hU s2 hm hl s3
  have A0 : Hid (∀ o, Below w.heap.size w (w.alloc o)) := fun o => (Below.refl _ _).alloc (Nat.le_refl _) _
  have X0 : Hid (Box (w.alloc (.cells #[.slice a1 n1 c1, .slice a2 n2 c2, .bool AA, .slice a3 n3 c3, .int .i64 G', .int .i64 R', .slice sa' k' sc', .slice ha m hc] 47)) w.heap.size [.slice a1 n1 c1, .slice a2 n2 c2, .bool AA, .slice a3 n3 c3, .int .i64 G', .int .i64 R', .slice sa' k' sc', .slice ha m hc]) := Box.new rfl
  go_enter Tryz.func40, Tryz.ntmps40
  go_wp2_with fail
  refine (openedI a1 a2 a3 n1 c1 n2 c2 n3 c3 AA D _ HS.out HN.out hcp (HD.out.1.below (A0.out _)) (HD.out.2.below (A0.out _)) (HT.out.below (A0.out _))).mono ?_
  rintro e w1 ⟨hb1, hcase⟩
  have B1 : Hid (Below w.heap.size w w1) := Below.new hb1
  have X1 : Hid (Box w1 w.heap.size [.slice a1 n1 c1, .slice a2 n2 c2, .bool AA, .slice a3 n3 c3, .int .i64 G', .int .i64 R', .slice sa' k' sc', .slice ha m hc]) := X0.out.below hb1
  clear hb1 X0
  rcases hcase with ⟨q, hq, ho, rfl⟩ | ⟨V, A, B, ho, rfl, hat⟩
  · have F : Hid (storeB D U H = false) := by show _ = _; unfold storeB; rw [ho]
    have e1 : (q != 0) = true := by simpa using hq
    clear ho
    go_wp2_with fail
    exact bodyPost_ret (v := .tuple #[.pointer none, .bool false]) (by simp [results, Tryz.results40, go_sem]) rfl ⟨_, _, rfl, F.out, B1.out, fun h => by cases h⟩
  · have HO : Hid (openM D = (0, some (V, A))) := ho
    have OA : Hid (OpenAt w1 w.heap.size B (.slice a1 n1 c1) (.slice a2 n2 c2) (.bool AA) (.slice a3 n3 c3) D V A) := by
      obtain ⟨g, r, sa, k, sc, u, t1, t2, t3, t4, t5⟩ := hat
      have h9 : (w.alloc (.cells #[.slice a1 n1 c1, .slice a2 n2 c2, .bool AA, .slice a3 n3 c3, .int .i64 G', .int .i64 R', .slice sa' k' sc', .slice ha m hc] 47)).heap.size = w.heap.size + 1 := by simp
      rw [h9] at t2 t5
      exact ⟨g, r, sa, k, sc, u, t1, t2.mono (by omega) (Nat.le_refl _), t3, t4, by omega⟩
    obtain ⟨g, r, sa, k, sc, u, t1, t2, t3, t4, t5⟩ := OA.out
    obtain ⟨sa2, sc2, e2, ssn⟩ := t2.reads
    obtain ⟨ua, ud, rfl, _⟩ := t3.lit
    have hrh := t3.reads
    simp only [Value.agg.injEq, Array.mk.injEq, List.cons.injEq, Value.int.injEq, Value.slice.injEq, and_true, true_and] at e2
    obtain ⟨hg, hr9, rfl, hk, rfl⟩ := e2
    have KS : Hid (V.S.length ≤ 1048576) := open_len HO.out
    have KL : Hid (∀ N ∈ keepH A (pagesM (D.S.drop 2)), lenN N) := keep_lens (fun x hx => HS.out.1.2 x (List.mem_of_mem_drop hx))
    have VF : Hid (V.G = g ∧ V.R = r ∧ V.S.length = k) := ⟨hg.symm, hr9.symm, hk.symm⟩
    have SV : Hid (Src w1 sa (cellsSn V.S)) := ssn
    have RV : Hid (ReadsHL w1 ua (keepH A (pagesM (D.S.drop 2)))) := hrh
    obtain ⟨x, hx⟩ : ∃ x, decide (V.S = U.S) = x := ⟨_, rfl⟩
    obtain ⟨y, hy⟩ : ∃ y, decide (keepH A (pagesM (D.S.drop 2)) = H) = y := ⟨_, rfl⟩
    have FB : Hid (storeB D U H = (g == G' && (r == R' && (x && y)))) := by
      show _ = _
      unfold storeB
      rw [ho]
      simp only
      rw [hx, hy, VF.out.1, VF.out.2.1, HU.out.1, HU.out.2.1]
    have HX : Hid (decide (V.S = U.S) = x ∧ decide (keepH A (pagesM (D.S.drop 2)) = H) = y) := ⟨hx, hy⟩
    have TB : Hid (Box w1 B ([.int .i64 g, .int .i64 r, .slice sa k sc, .slice a1 n1 c1, .slice a2 n2 c2, .bool AA, .slice a3 n3 c3, .slice ua 50 ud] ++ A.map Value.bool)) := t1
    have SC : Hid (∀ w', Below w1.heap.size w1 w' → w'.cell? ⟨B, 0, none⟩ = some (.int .i64 g) ∧ w'.cell? ⟨B, 1, none⟩ = some (.int .i64 r) ∧ w'.cell? ⟨B, 2, none⟩ = some (.slice sa k sc) ∧ w'.cell? ⟨B, 7, none⟩ = some (.slice ua 50 ud) ∧ w'.cell? ⟨w.heap.size, 4, none⟩ = some (.int .i64 G') ∧ w'.cell? ⟨w.heap.size, 5, none⟩ = some (.int .i64 R') ∧ w'.cell? ⟨w.heap.size, 6, none⟩ = some (.slice sa' k' sc') ∧ w'.cell? ⟨w.heap.size, 7, none⟩ = some (.slice ha m hc)) := fun w' hb => by
      have h1 := TB.out.below hb
      have h2 := X1.out.below hb
      exact ⟨(h1 0 _ rfl).1, (h1 1 _ rfl).1, (h1 2 _ rfl).1, (h1 7 _ rfl).1, (h2 4 _ rfl).1, (h2 5 _ rfl).1, (h2 6 _ rfl).1, (h2 7 _ rfl).1⟩
    have BR : Hid (Below w1.heap.size w1 w1.drew) := (Below.refl _ _).drew
    clear hg hr9 hk ssn hrh hx hy t1 t2 t3 t5 ho hat
    dsimp only
    go_wp2_with fail
    have kk : Hid (k ≤ 1048576) := by show k ≤ _; rw [← VF.out.2.2]; exact KS.out
    by_cases hG : g = G'
    case neg =>
      have e1 : (g == G') = false := by simpa using hG
      have FF : Hid (storeB D U H = false) := by show _ = _; rw [FB.out, e1]; rfl
      refine wp_region_noPanic ?_
      refine wp_region_held_drew (S := (fun w' => w'.cell? ⟨B, 0, none⟩ = some (.int .i64 g) ∧ w'.cell? ⟨B, 1, none⟩ = some (.int .i64 r) ∧ w'.cell? ⟨B, 2, none⟩ = some (.slice sa k sc) ∧ w'.cell? ⟨B, 7, none⟩ = some (.slice ua 50 ud) ∧ w'.cell? ⟨w.heap.size, 4, none⟩ = some (.int .i64 G') ∧ w'.cell? ⟨w.heap.size, 5, none⟩ = some (.int .i64 R') ∧ w'.cell? ⟨w.heap.size, 6, none⟩ = some (.slice sa' k' sc') ∧ w'.cell? ⟨w.heap.size, 7, none⟩ = some (.slice ha m hc))) (by kernel_rfl) (SC.out _ BR.out) (fun hHeld => ?_)
      refine tkA (i := 0) (v := .pointer (some ⟨B, 0, none⟩)) ?_ hHeld ?_
      · rintro w9 ⟨s0, s1, s2, s3, s4, s5, s6, s7⟩; go_simp
      simp only [Act.put, setIfInBounds_toArray, set_cons_zero, set_cons_succ]
      refine tkA (i := 1) (v := .pointer (some ⟨B, 0, none⟩)) ?_ hHeld ?_
      · rintro w9 ⟨s0, s1, s2, s3, s4, s5, s6, s7⟩; go_simp
      simp only [Act.put, setIfInBounds_toArray, set_cons_zero, set_cons_succ]
      refine tkA (i := 2) (v := .pointer (some ⟨B, 0, none⟩)) ?_ hHeld ?_
      · rintro w9 ⟨s0, s1, s2, s3, s4, s5, s6, s7⟩; go_simp
      simp only [Act.put, setIfInBounds_toArray, set_cons_zero, set_cons_succ]
      refine tkA (i := 3) (v := .pointer (some ⟨B, 0, none⟩)) ?_ hHeld ?_
      · rintro w9 ⟨s0, s1, s2, s3, s4, s5, s6, s7⟩; go_simp
      simp only [Act.put, setIfInBounds_toArray, set_cons_zero, set_cons_succ]
      refine tkA (i := 4) (v := .int .i64 g) ?_ hHeld ?_
      · rintro w9 ⟨s0, s1, s2, s3, s4, s5, s6, s7⟩; go_simp
      simp only [Act.put, setIfInBounds_toArray, set_cons_zero, set_cons_succ]
      refine tkA (i := 5) (v := .pointer (some ⟨w.heap.size, 4, none⟩)) ?_ hHeld ?_
      · rintro w9 ⟨s0, s1, s2, s3, s4, s5, s6, s7⟩; go_simp
      simp only [Act.put, setIfInBounds_toArray, set_cons_zero, set_cons_succ]
      refine tkA (i := 6) (v := .pointer (some ⟨w.heap.size, 4, none⟩)) ?_ hHeld ?_
      · rintro w9 ⟨s0, s1, s2, s3, s4, s5, s6, s7⟩; go_simp
      simp only [Act.put, setIfInBounds_toArray, set_cons_zero, set_cons_succ]
      refine tkA (i := 7) (v := .int .i64 G') ?_ hHeld ?_
      · rintro w9 ⟨s0, s1, s2, s3, s4, s5, s6, s7⟩; go_simp
      simp only [Act.put, setIfInBounds_toArray, set_cons_zero, set_cons_succ]
      refine tkA (i := 8) (v := .bool false) ?_ hHeld ?_
      · rintro w9 ⟨s0, s1, s2, s3, s4, s5, s6, s7⟩; go_simp
      simp only [Act.put, setIfInBounds_toArray, set_cons_zero, set_cons_succ]
      refine tkA (i := 9) (v := .bool false) ?_ hHeld ?_
      · rintro w9 ⟨s0, s1, s2, s3, s4, s5, s6, s7⟩; go_simp
      simp only [Act.put, setIfInBounds_toArray, set_cons_zero, set_cons_succ]
      refine skA (i := 10) hHeld ?_
      simp only [Act.put, setIfInBounds_toArray, set_cons_zero, set_cons_succ]
      refine skA (i := 11) hHeld ?_
      simp only [Act.put, setIfInBounds_toArray, set_cons_zero, set_cons_succ]
      refine skA (i := 12) hHeld ?_
      simp only [Act.put, setIfInBounds_toArray, set_cons_zero, set_cons_succ]
      refine skA (i := 13) hHeld ?_
      simp only [Act.put, setIfInBounds_toArray, set_cons_zero, set_cons_succ]
      refine skA (i := 14) hHeld ?_
      simp only [Act.put, setIfInBounds_toArray, set_cons_zero, set_cons_succ]
      refine skA (i := 15) hHeld ?_
      simp only [Act.put, setIfInBounds_toArray, set_cons_zero, set_cons_succ]
      refine skA (i := 16) hHeld ?_
      simp only [Act.put, setIfInBounds_toArray, set_cons_zero, set_cons_succ]
      refine skA (i := 17) hHeld ?_
      simp only [Act.put, setIfInBounds_toArray, set_cons_zero, set_cons_succ]
      refine skA (i := 18) hHeld ?_
      simp only [Act.put, setIfInBounds_toArray, set_cons_zero, set_cons_succ]
      refine tkA (i := 19) (v := .bool false) ?_ hHeld ?_
      · rintro w9 ⟨s0, s1, s2, s3, s4, s5, s6, s7⟩; go_simp
      simp only [Act.put, setIfInBounds_toArray, set_cons_zero, set_cons_succ]
      refine tkA (i := 20) (v := .bool false) ?_ hHeld ?_
      · rintro w9 ⟨s0, s1, s2, s3, s4, s5, s6, s7⟩; go_simp
      simp only [Act.put, setIfInBounds_toArray, set_cons_zero, set_cons_succ]
      refine skA (i := 21) hHeld ?_
      simp only [Act.put, setIfInBounds_toArray, set_cons_zero, set_cons_succ]
      refine skA (i := 22) hHeld ?_
      simp only [Act.put, setIfInBounds_toArray, set_cons_zero, set_cons_succ]
      refine skA (i := 23) hHeld ?_
      simp only [Act.put, setIfInBounds_toArray, set_cons_zero, set_cons_succ]
      refine skA (i := 24) hHeld ?_
      simp only [Act.put, setIfInBounds_toArray, set_cons_zero, set_cons_succ]
      refine skA (i := 25) hHeld ?_
      simp only [Act.put, setIfInBounds_toArray, set_cons_zero, set_cons_succ]
      refine skA (i := 26) hHeld ?_
      simp only [Act.put, setIfInBounds_toArray, set_cons_zero, set_cons_succ]
      refine skA (i := 27) hHeld ?_
      simp only [Act.put, setIfInBounds_toArray, set_cons_zero, set_cons_succ]
      refine skA (i := 28) hHeld ?_
      simp only [Act.put, setIfInBounds_toArray, set_cons_zero, set_cons_succ]
      refine skA (i := 29) hHeld ?_
      simp only [Act.put, setIfInBounds_toArray, set_cons_zero, set_cons_succ]
      refine tkA (i := 30) (v := .bool false) ?_ hHeld ?_
      · rintro w9 ⟨s0, s1, s2, s3, s4, s5, s6, s7⟩; go_simp
      simp only [Act.put, setIfInBounds_toArray, set_cons_zero, set_cons_succ]
      refine wpAnyH_ready (rs := [31]) (by kernel_rfl) (by simp) ?_
      refine AllReadyH.cons rfl (fun K hK => ?_) AllReadyH.nil
      go_simp
      refine hK.out _ _ (SC.out _ BR.out) (fun hHeld => ?_)
      clear hK K
      refine wpAnyH_done (by kernel_rfl) ?_ _
      refine NoPanic.normal ?_
      try simp only [Act.put, setIfInBounds_toArray, set_cons_zero, set_cons_succ]
      go_wp2_with fail
      try simp only [Act.put, setIfInBounds_toArray, set_cons_zero, set_cons_succ]
      have BS : Hid (Below w1.heap.size w1 w1.drew.drew) := BR.out.drew
      refine wp_region_noPanic ?_
      refine wp_region_held_drew (S := (fun w' => w'.cell? ⟨B, 0, none⟩ = some (.int .i64 g) ∧ w'.cell? ⟨B, 1, none⟩ = some (.int .i64 r) ∧ w'.cell? ⟨B, 2, none⟩ = some (.slice sa k sc) ∧ w'.cell? ⟨B, 7, none⟩ = some (.slice ua 50 ud) ∧ w'.cell? ⟨w.heap.size, 4, none⟩ = some (.int .i64 G') ∧ w'.cell? ⟨w.heap.size, 5, none⟩ = some (.int .i64 R') ∧ w'.cell? ⟨w.heap.size, 6, none⟩ = some (.slice sa' k' sc') ∧ w'.cell? ⟨w.heap.size, 7, none⟩ = some (.slice ha m hc))) (by kernel_rfl) (SC.out _ BS.out) (fun hHeld => ?_)
      refine tkA (i := 0) (v := .pointer (some ⟨B, 0, none⟩)) ?_ hHeld ?_
      · rintro w9 ⟨s0, s1, s2, s3, s4, s5, s6, s7⟩; go_simp
      simp only [Act.put, setIfInBounds_toArray, set_cons_zero, set_cons_succ]
      refine tkA (i := 1) (v := .bool false) ?_ hHeld ?_
      · rintro w9 ⟨s0, s1, s2, s3, s4, s5, s6, s7⟩; go_simp
      simp only [Act.put, setIfInBounds_toArray, set_cons_zero, set_cons_succ]
      refine tkA (i := 2) (v := .bool false) ?_ hHeld ?_
      · rintro w9 ⟨s0, s1, s2, s3, s4, s5, s6, s7⟩; go_simp
      simp only [Act.put, setIfInBounds_toArray, set_cons_zero, set_cons_succ]
      refine skA (i := 3) hHeld ?_
      simp only [Act.put, setIfInBounds_toArray, set_cons_zero, set_cons_succ]
      refine skA (i := 4) hHeld ?_
      simp only [Act.put, setIfInBounds_toArray, set_cons_zero, set_cons_succ]
      refine skA (i := 5) hHeld ?_
      simp only [Act.put, setIfInBounds_toArray, set_cons_zero, set_cons_succ]
      refine skA (i := 6) hHeld ?_
      simp only [Act.put, setIfInBounds_toArray, set_cons_zero, set_cons_succ]
      refine skA (i := 7) hHeld ?_
      simp only [Act.put, setIfInBounds_toArray, set_cons_zero, set_cons_succ]
      refine skA (i := 8) hHeld ?_
      simp only [Act.put, setIfInBounds_toArray, set_cons_zero, set_cons_succ]
      refine skA (i := 9) hHeld ?_
      simp only [Act.put, setIfInBounds_toArray, set_cons_zero, set_cons_succ]
      refine skA (i := 10) hHeld ?_
      simp only [Act.put, setIfInBounds_toArray, set_cons_zero, set_cons_succ]
      refine skA (i := 11) hHeld ?_
      simp only [Act.put, setIfInBounds_toArray, set_cons_zero, set_cons_succ]
      refine tkA (i := 12) (v := .bool false) ?_ hHeld ?_
      · rintro w9 ⟨s0, s1, s2, s3, s4, s5, s6, s7⟩; go_simp
      simp only [Act.put, setIfInBounds_toArray, set_cons_zero, set_cons_succ]
      refine tkA (i := 13) (v := .pointer (some ⟨B, 0, none⟩)) ?_ hHeld ?_
      · rintro w9 ⟨s0, s1, s2, s3, s4, s5, s6, s7⟩; go_simp
      simp only [Act.put, setIfInBounds_toArray, set_cons_zero, set_cons_succ]
      refine wpAnyH_ready (rs := [14]) (by kernel_rfl) (by simp) ?_
      refine AllReadyH.cons rfl (fun K hK => ?_) AllReadyH.nil
      go_simp
      refine hK.out _ _ (SC.out _ BS.out) (fun hHeld => ?_)
      clear hK K
      refine wpAnyH_done (by kernel_rfl) ?_ _
      refine NoPanic.normal ?_
      try simp only [Act.put, setIfInBounds_toArray, set_cons_zero, set_cons_succ]
      go_wp2_with fail
      try simp only [Act.put, setIfInBounds_toArray, set_cons_zero, set_cons_succ]
      exact bodyPost_ret (v := .tuple #[.pointer (some ⟨B, 0, none⟩), .bool false]) (by simp [results, Tryz.results40, go_sem]) rfl ⟨_, _, rfl, FF.out, B1.out.trans (BS.out.mono B1.out.size), fun h => by cases h⟩
    subst hG
    have e1 : (g == g) = true := by simp
    by_cases hR : r = R'
    case neg =>
      have e2 : (r == R') = false := by simpa using hR
      have FF : Hid (storeB D U H = false) := by show _ = _; rw [FB.out, e1, e2]; rfl
      refine wp_region_noPanic ?_
      refine wp_region_held_drew (S := (fun w' => w'.cell? ⟨B, 0, none⟩ = some (.int .i64 g) ∧ w'.cell? ⟨B, 1, none⟩ = some (.int .i64 r) ∧ w'.cell? ⟨B, 2, none⟩ = some (.slice sa k sc) ∧ w'.cell? ⟨B, 7, none⟩ = some (.slice ua 50 ud) ∧ w'.cell? ⟨w.heap.size, 4, none⟩ = some (.int .i64 g) ∧ w'.cell? ⟨w.heap.size, 5, none⟩ = some (.int .i64 R') ∧ w'.cell? ⟨w.heap.size, 6, none⟩ = some (.slice sa' k' sc') ∧ w'.cell? ⟨w.heap.size, 7, none⟩ = some (.slice ha m hc))) (by kernel_rfl) (SC.out _ BR.out) (fun hHeld => ?_)
      refine tkA (i := 0) (v := .pointer (some ⟨B, 0, none⟩)) ?_ hHeld ?_
      · rintro w9 ⟨s0, s1, s2, s3, s4, s5, s6, s7⟩; go_simp
      simp only [Act.put, setIfInBounds_toArray, set_cons_zero, set_cons_succ]
      refine tkA (i := 1) (v := .pointer (some ⟨B, 0, none⟩)) ?_ hHeld ?_
      · rintro w9 ⟨s0, s1, s2, s3, s4, s5, s6, s7⟩; go_simp
      simp only [Act.put, setIfInBounds_toArray, set_cons_zero, set_cons_succ]
      refine tkA (i := 2) (v := .pointer (some ⟨B, 0, none⟩)) ?_ hHeld ?_
      · rintro w9 ⟨s0, s1, s2, s3, s4, s5, s6, s7⟩; go_simp
      simp only [Act.put, setIfInBounds_toArray, set_cons_zero, set_cons_succ]
      refine tkA (i := 3) (v := .pointer (some ⟨B, 0, none⟩)) ?_ hHeld ?_
      · rintro w9 ⟨s0, s1, s2, s3, s4, s5, s6, s7⟩; go_simp
      simp only [Act.put, setIfInBounds_toArray, set_cons_zero, set_cons_succ]
      refine tkA (i := 4) (v := .int .i64 g) ?_ hHeld ?_
      · rintro w9 ⟨s0, s1, s2, s3, s4, s5, s6, s7⟩; go_simp
      simp only [Act.put, setIfInBounds_toArray, set_cons_zero, set_cons_succ]
      refine tkA (i := 5) (v := .pointer (some ⟨w.heap.size, 4, none⟩)) ?_ hHeld ?_
      · rintro w9 ⟨s0, s1, s2, s3, s4, s5, s6, s7⟩; go_simp
      simp only [Act.put, setIfInBounds_toArray, set_cons_zero, set_cons_succ]
      refine tkA (i := 6) (v := .pointer (some ⟨w.heap.size, 4, none⟩)) ?_ hHeld ?_
      · rintro w9 ⟨s0, s1, s2, s3, s4, s5, s6, s7⟩; go_simp
      simp only [Act.put, setIfInBounds_toArray, set_cons_zero, set_cons_succ]
      refine tkA (i := 7) (v := .int .i64 g) ?_ hHeld ?_
      · rintro w9 ⟨s0, s1, s2, s3, s4, s5, s6, s7⟩; go_simp
      simp only [Act.put, setIfInBounds_toArray, set_cons_zero, set_cons_succ]
      refine tkA (i := 8) (v := .bool true) ?_ hHeld ?_
      · rintro w9 ⟨s0, s1, s2, s3, s4, s5, s6, s7⟩; go_simp
      simp only [Act.put, setIfInBounds_toArray, set_cons_zero, set_cons_succ]
      refine tkA (i := 9) (v := .bool true) ?_ hHeld ?_
      · rintro w9 ⟨s0, s1, s2, s3, s4, s5, s6, s7⟩; go_simp
      simp only [Act.put, setIfInBounds_toArray, set_cons_zero, set_cons_succ]
      refine tkA (i := 10) (v := .pointer (some ⟨B, 0, none⟩)) ?_ hHeld ?_
      · rintro w9 ⟨s0, s1, s2, s3, s4, s5, s6, s7⟩; go_simp
      simp only [Act.put, setIfInBounds_toArray, set_cons_zero, set_cons_succ]
      refine tkA (i := 11) (v := .pointer (some ⟨B, 0, none⟩)) ?_ hHeld ?_
      · rintro w9 ⟨s0, s1, s2, s3, s4, s5, s6, s7⟩; go_simp
      simp only [Act.put, setIfInBounds_toArray, set_cons_zero, set_cons_succ]
      refine tkA (i := 12) (v := .pointer (some ⟨B, 0, none⟩)) ?_ hHeld ?_
      · rintro w9 ⟨s0, s1, s2, s3, s4, s5, s6, s7⟩; go_simp
      simp only [Act.put, setIfInBounds_toArray, set_cons_zero, set_cons_succ]
      refine tkA (i := 13) (v := .pointer (some ⟨B, 1, none⟩)) ?_ hHeld ?_
      · rintro w9 ⟨s0, s1, s2, s3, s4, s5, s6, s7⟩; go_simp
      simp only [Act.put, setIfInBounds_toArray, set_cons_zero, set_cons_succ]
      refine tkA (i := 14) (v := .int .i64 r) ?_ hHeld ?_
      · rintro w9 ⟨s0, s1, s2, s3, s4, s5, s6, s7⟩; go_simp
      simp only [Act.put, setIfInBounds_toArray, set_cons_zero, set_cons_succ]
      refine tkA (i := 15) (v := .pointer (some ⟨w.heap.size, 4, none⟩)) ?_ hHeld ?_
      · rintro w9 ⟨s0, s1, s2, s3, s4, s5, s6, s7⟩; go_simp
      simp only [Act.put, setIfInBounds_toArray, set_cons_zero, set_cons_succ]
      refine tkA (i := 16) (v := .pointer (some ⟨w.heap.size, 5, none⟩)) ?_ hHeld ?_
      · rintro w9 ⟨s0, s1, s2, s3, s4, s5, s6, s7⟩; go_simp
      simp only [Act.put, setIfInBounds_toArray, set_cons_zero, set_cons_succ]
      refine tkA (i := 17) (v := .int .i64 R') ?_ hHeld ?_
      · rintro w9 ⟨s0, s1, s2, s3, s4, s5, s6, s7⟩; go_simp
      simp only [Act.put, setIfInBounds_toArray, set_cons_zero, set_cons_succ]
      refine tkA (i := 18) (v := .bool false) ?_ hHeld ?_
      · rintro w9 ⟨s0, s1, s2, s3, s4, s5, s6, s7⟩; go_simp
      simp only [Act.put, setIfInBounds_toArray, set_cons_zero, set_cons_succ]
      refine tkA (i := 19) (v := .bool false) ?_ hHeld ?_
      · rintro w9 ⟨s0, s1, s2, s3, s4, s5, s6, s7⟩; go_simp
      simp only [Act.put, setIfInBounds_toArray, set_cons_zero, set_cons_succ]
      refine tkA (i := 20) (v := .bool false) ?_ hHeld ?_
      · rintro w9 ⟨s0, s1, s2, s3, s4, s5, s6, s7⟩; go_simp
      simp only [Act.put, setIfInBounds_toArray, set_cons_zero, set_cons_succ]
      refine skA (i := 21) hHeld ?_
      simp only [Act.put, setIfInBounds_toArray, set_cons_zero, set_cons_succ]
      refine skA (i := 22) hHeld ?_
      simp only [Act.put, setIfInBounds_toArray, set_cons_zero, set_cons_succ]
      refine skA (i := 23) hHeld ?_
      simp only [Act.put, setIfInBounds_toArray, set_cons_zero, set_cons_succ]
      refine skA (i := 24) hHeld ?_
      simp only [Act.put, setIfInBounds_toArray, set_cons_zero, set_cons_succ]
      refine skA (i := 25) hHeld ?_
      simp only [Act.put, setIfInBounds_toArray, set_cons_zero, set_cons_succ]
      refine skA (i := 26) hHeld ?_
      simp only [Act.put, setIfInBounds_toArray, set_cons_zero, set_cons_succ]
      refine skA (i := 27) hHeld ?_
      simp only [Act.put, setIfInBounds_toArray, set_cons_zero, set_cons_succ]
      refine skA (i := 28) hHeld ?_
      simp only [Act.put, setIfInBounds_toArray, set_cons_zero, set_cons_succ]
      refine skA (i := 29) hHeld ?_
      simp only [Act.put, setIfInBounds_toArray, set_cons_zero, set_cons_succ]
      refine tkA (i := 30) (v := .bool false) ?_ hHeld ?_
      · rintro w9 ⟨s0, s1, s2, s3, s4, s5, s6, s7⟩; go_simp
      simp only [Act.put, setIfInBounds_toArray, set_cons_zero, set_cons_succ]
      refine wpAnyH_ready (rs := [31]) (by kernel_rfl) (by simp) ?_
      refine AllReadyH.cons rfl (fun K hK => ?_) AllReadyH.nil
      go_simp
      refine hK.out _ _ (SC.out _ BR.out) (fun hHeld => ?_)
      clear hK K
      refine wpAnyH_done (by kernel_rfl) ?_ _
      refine NoPanic.normal ?_
      try simp only [Act.put, setIfInBounds_toArray, set_cons_zero, set_cons_succ]
      go_wp2_with fail
      try simp only [Act.put, setIfInBounds_toArray, set_cons_zero, set_cons_succ]
      have BS : Hid (Below w1.heap.size w1 w1.drew.drew) := BR.out.drew
      refine wp_region_noPanic ?_
      refine wp_region_held_drew (S := (fun w' => w'.cell? ⟨B, 0, none⟩ = some (.int .i64 g) ∧ w'.cell? ⟨B, 1, none⟩ = some (.int .i64 r) ∧ w'.cell? ⟨B, 2, none⟩ = some (.slice sa k sc) ∧ w'.cell? ⟨B, 7, none⟩ = some (.slice ua 50 ud) ∧ w'.cell? ⟨w.heap.size, 4, none⟩ = some (.int .i64 g) ∧ w'.cell? ⟨w.heap.size, 5, none⟩ = some (.int .i64 R') ∧ w'.cell? ⟨w.heap.size, 6, none⟩ = some (.slice sa' k' sc') ∧ w'.cell? ⟨w.heap.size, 7, none⟩ = some (.slice ha m hc))) (by kernel_rfl) (SC.out _ BS.out) (fun hHeld => ?_)
      refine tkA (i := 0) (v := .pointer (some ⟨B, 0, none⟩)) ?_ hHeld ?_
      · rintro w9 ⟨s0, s1, s2, s3, s4, s5, s6, s7⟩; go_simp
      simp only [Act.put, setIfInBounds_toArray, set_cons_zero, set_cons_succ]
      refine tkA (i := 1) (v := .bool false) ?_ hHeld ?_
      · rintro w9 ⟨s0, s1, s2, s3, s4, s5, s6, s7⟩; go_simp
      simp only [Act.put, setIfInBounds_toArray, set_cons_zero, set_cons_succ]
      refine tkA (i := 2) (v := .bool false) ?_ hHeld ?_
      · rintro w9 ⟨s0, s1, s2, s3, s4, s5, s6, s7⟩; go_simp
      simp only [Act.put, setIfInBounds_toArray, set_cons_zero, set_cons_succ]
      refine skA (i := 3) hHeld ?_
      simp only [Act.put, setIfInBounds_toArray, set_cons_zero, set_cons_succ]
      refine skA (i := 4) hHeld ?_
      simp only [Act.put, setIfInBounds_toArray, set_cons_zero, set_cons_succ]
      refine skA (i := 5) hHeld ?_
      simp only [Act.put, setIfInBounds_toArray, set_cons_zero, set_cons_succ]
      refine skA (i := 6) hHeld ?_
      simp only [Act.put, setIfInBounds_toArray, set_cons_zero, set_cons_succ]
      refine skA (i := 7) hHeld ?_
      simp only [Act.put, setIfInBounds_toArray, set_cons_zero, set_cons_succ]
      refine skA (i := 8) hHeld ?_
      simp only [Act.put, setIfInBounds_toArray, set_cons_zero, set_cons_succ]
      refine skA (i := 9) hHeld ?_
      simp only [Act.put, setIfInBounds_toArray, set_cons_zero, set_cons_succ]
      refine skA (i := 10) hHeld ?_
      simp only [Act.put, setIfInBounds_toArray, set_cons_zero, set_cons_succ]
      refine skA (i := 11) hHeld ?_
      simp only [Act.put, setIfInBounds_toArray, set_cons_zero, set_cons_succ]
      refine tkA (i := 12) (v := .bool false) ?_ hHeld ?_
      · rintro w9 ⟨s0, s1, s2, s3, s4, s5, s6, s7⟩; go_simp
      simp only [Act.put, setIfInBounds_toArray, set_cons_zero, set_cons_succ]
      refine tkA (i := 13) (v := .pointer (some ⟨B, 0, none⟩)) ?_ hHeld ?_
      · rintro w9 ⟨s0, s1, s2, s3, s4, s5, s6, s7⟩; go_simp
      simp only [Act.put, setIfInBounds_toArray, set_cons_zero, set_cons_succ]
      refine wpAnyH_ready (rs := [14]) (by kernel_rfl) (by simp) ?_
      refine AllReadyH.cons rfl (fun K hK => ?_) AllReadyH.nil
      go_simp
      refine hK.out _ _ (SC.out _ BS.out) (fun hHeld => ?_)
      clear hK K
      refine wpAnyH_done (by kernel_rfl) ?_ _
      refine NoPanic.normal ?_
      try simp only [Act.put, setIfInBounds_toArray, set_cons_zero, set_cons_succ]
      go_wp2_with fail
      try simp only [Act.put, setIfInBounds_toArray, set_cons_zero, set_cons_succ]
      exact bodyPost_ret (v := .tuple #[.pointer (some ⟨B, 0, none⟩), .bool false]) (by simp [results, Tryz.results40, go_sem]) rfl ⟨_, _, rfl, FF.out, B1.out.trans (BS.out.mono B1.out.size), fun h => by cases h⟩
    subst hR
    have e2 : (r == r) = true := by simp
    cases x with
    | false =>
      have FF : Hid (storeB D U H = false) := by show _ = _; rw [FB.out, e1, e2]; rfl
      refine wp_region_noPanic ?_
      refine wp_region_held_drew (S := (fun w' => w'.cell? ⟨B, 0, none⟩ = some (.int .i64 g) ∧ w'.cell? ⟨B, 1, none⟩ = some (.int .i64 r) ∧ w'.cell? ⟨B, 2, none⟩ = some (.slice sa k sc) ∧ w'.cell? ⟨B, 7, none⟩ = some (.slice ua 50 ud) ∧ w'.cell? ⟨w.heap.size, 4, none⟩ = some (.int .i64 g) ∧ w'.cell? ⟨w.heap.size, 5, none⟩ = some (.int .i64 r) ∧ w'.cell? ⟨w.heap.size, 6, none⟩ = some (.slice sa' k' sc') ∧ w'.cell? ⟨w.heap.size, 7, none⟩ = some (.slice ha m hc))) (by kernel_rfl) (SC.out _ BR.out) (fun hHeld => ?_)
      refine tkA (i := 0) (v := .pointer (some ⟨B, 0, none⟩)) ?_ hHeld ?_
      · rintro w9 ⟨s0, s1, s2, s3, s4, s5, s6, s7⟩; go_simp
      simp only [Act.put, setIfInBounds_toArray, set_cons_zero, set_cons_succ]
      refine tkA (i := 1) (v := .pointer (some ⟨B, 0, none⟩)) ?_ hHeld ?_
      · rintro w9 ⟨s0, s1, s2, s3, s4, s5, s6, s7⟩; go_simp
      simp only [Act.put, setIfInBounds_toArray, set_cons_zero, set_cons_succ]
      refine tkA (i := 2) (v := .pointer (some ⟨B, 0, none⟩)) ?_ hHeld ?_
      · rintro w9 ⟨s0, s1, s2, s3, s4, s5, s6, s7⟩; go_simp
      simp only [Act.put, setIfInBounds_toArray, set_cons_zero, set_cons_succ]
      refine tkA (i := 3) (v := .pointer (some ⟨B, 0, none⟩)) ?_ hHeld ?_
      · rintro w9 ⟨s0, s1, s2, s3, s4, s5, s6, s7⟩; go_simp
      simp only [Act.put, setIfInBounds_toArray, set_cons_zero, set_cons_succ]
      refine tkA (i := 4) (v := .int .i64 g) ?_ hHeld ?_
      · rintro w9 ⟨s0, s1, s2, s3, s4, s5, s6, s7⟩; go_simp
      simp only [Act.put, setIfInBounds_toArray, set_cons_zero, set_cons_succ]
      refine tkA (i := 5) (v := .pointer (some ⟨w.heap.size, 4, none⟩)) ?_ hHeld ?_
      · rintro w9 ⟨s0, s1, s2, s3, s4, s5, s6, s7⟩; go_simp
      simp only [Act.put, setIfInBounds_toArray, set_cons_zero, set_cons_succ]
      refine tkA (i := 6) (v := .pointer (some ⟨w.heap.size, 4, none⟩)) ?_ hHeld ?_
      · rintro w9 ⟨s0, s1, s2, s3, s4, s5, s6, s7⟩; go_simp
      simp only [Act.put, setIfInBounds_toArray, set_cons_zero, set_cons_succ]
      refine tkA (i := 7) (v := .int .i64 g) ?_ hHeld ?_
      · rintro w9 ⟨s0, s1, s2, s3, s4, s5, s6, s7⟩; go_simp
      simp only [Act.put, setIfInBounds_toArray, set_cons_zero, set_cons_succ]
      refine tkA (i := 8) (v := .bool true) ?_ hHeld ?_
      · rintro w9 ⟨s0, s1, s2, s3, s4, s5, s6, s7⟩; go_simp
      simp only [Act.put, setIfInBounds_toArray, set_cons_zero, set_cons_succ]
      refine tkA (i := 9) (v := .bool true) ?_ hHeld ?_
      · rintro w9 ⟨s0, s1, s2, s3, s4, s5, s6, s7⟩; go_simp
      simp only [Act.put, setIfInBounds_toArray, set_cons_zero, set_cons_succ]
      refine tkA (i := 10) (v := .pointer (some ⟨B, 0, none⟩)) ?_ hHeld ?_
      · rintro w9 ⟨s0, s1, s2, s3, s4, s5, s6, s7⟩; go_simp
      simp only [Act.put, setIfInBounds_toArray, set_cons_zero, set_cons_succ]
      refine tkA (i := 11) (v := .pointer (some ⟨B, 0, none⟩)) ?_ hHeld ?_
      · rintro w9 ⟨s0, s1, s2, s3, s4, s5, s6, s7⟩; go_simp
      simp only [Act.put, setIfInBounds_toArray, set_cons_zero, set_cons_succ]
      refine tkA (i := 12) (v := .pointer (some ⟨B, 0, none⟩)) ?_ hHeld ?_
      · rintro w9 ⟨s0, s1, s2, s3, s4, s5, s6, s7⟩; go_simp
      simp only [Act.put, setIfInBounds_toArray, set_cons_zero, set_cons_succ]
      refine tkA (i := 13) (v := .pointer (some ⟨B, 1, none⟩)) ?_ hHeld ?_
      · rintro w9 ⟨s0, s1, s2, s3, s4, s5, s6, s7⟩; go_simp
      simp only [Act.put, setIfInBounds_toArray, set_cons_zero, set_cons_succ]
      refine tkA (i := 14) (v := .int .i64 r) ?_ hHeld ?_
      · rintro w9 ⟨s0, s1, s2, s3, s4, s5, s6, s7⟩; go_simp
      simp only [Act.put, setIfInBounds_toArray, set_cons_zero, set_cons_succ]
      refine tkA (i := 15) (v := .pointer (some ⟨w.heap.size, 4, none⟩)) ?_ hHeld ?_
      · rintro w9 ⟨s0, s1, s2, s3, s4, s5, s6, s7⟩; go_simp
      simp only [Act.put, setIfInBounds_toArray, set_cons_zero, set_cons_succ]
      refine tkA (i := 16) (v := .pointer (some ⟨w.heap.size, 5, none⟩)) ?_ hHeld ?_
      · rintro w9 ⟨s0, s1, s2, s3, s4, s5, s6, s7⟩; go_simp
      simp only [Act.put, setIfInBounds_toArray, set_cons_zero, set_cons_succ]
      refine tkA (i := 17) (v := .int .i64 r) ?_ hHeld ?_
      · rintro w9 ⟨s0, s1, s2, s3, s4, s5, s6, s7⟩; go_simp
      simp only [Act.put, setIfInBounds_toArray, set_cons_zero, set_cons_succ]
      refine tkA (i := 18) (v := .bool true) ?_ hHeld ?_
      · rintro w9 ⟨s0, s1, s2, s3, s4, s5, s6, s7⟩; go_simp
      simp only [Act.put, setIfInBounds_toArray, set_cons_zero, set_cons_succ]
      refine tkA (i := 19) (v := .bool true) ?_ hHeld ?_
      · rintro w9 ⟨s0, s1, s2, s3, s4, s5, s6, s7⟩; go_simp
      simp only [Act.put, setIfInBounds_toArray, set_cons_zero, set_cons_succ]
      refine tkA (i := 20) (v := .bool true) ?_ hHeld ?_
      · rintro w9 ⟨s0, s1, s2, s3, s4, s5, s6, s7⟩; go_simp
      simp only [Act.put, setIfInBounds_toArray, set_cons_zero, set_cons_succ]
      refine tkA (i := 21) (v := .pointer (some ⟨B, 0, none⟩)) ?_ hHeld ?_
      · rintro w9 ⟨s0, s1, s2, s3, s4, s5, s6, s7⟩; go_simp
      simp only [Act.put, setIfInBounds_toArray, set_cons_zero, set_cons_succ]
      refine tkA (i := 22) (v := .pointer (some ⟨B, 0, none⟩)) ?_ hHeld ?_
      · rintro w9 ⟨s0, s1, s2, s3, s4, s5, s6, s7⟩; go_simp
      simp only [Act.put, setIfInBounds_toArray, set_cons_zero, set_cons_succ]
      refine tkA (i := 23) (v := .pointer (some ⟨B, 0, none⟩)) ?_ hHeld ?_
      · rintro w9 ⟨s0, s1, s2, s3, s4, s5, s6, s7⟩; go_simp
      simp only [Act.put, setIfInBounds_toArray, set_cons_zero, set_cons_succ]
      refine tkA (i := 24) (v := .pointer (some ⟨B, 2, none⟩)) ?_ hHeld ?_
      · rintro w9 ⟨s0, s1, s2, s3, s4, s5, s6, s7⟩; go_simp
      simp only [Act.put, setIfInBounds_toArray, set_cons_zero, set_cons_succ]
      refine tkA (i := 25) (v := .slice sa k sc) ?_ hHeld ?_
      · rintro w9 ⟨s0, s1, s2, s3, s4, s5, s6, s7⟩; go_simp
      simp only [Act.put, setIfInBounds_toArray, set_cons_zero, set_cons_succ]
      refine tkA (i := 26) (v := .pointer (some ⟨w.heap.size, 4, none⟩)) ?_ hHeld ?_
      · rintro w9 ⟨s0, s1, s2, s3, s4, s5, s6, s7⟩; go_simp
      simp only [Act.put, setIfInBounds_toArray, set_cons_zero, set_cons_succ]
      refine tkA (i := 27) (v := .pointer (some ⟨w.heap.size, 6, none⟩)) ?_ hHeld ?_
      · rintro w9 ⟨s0, s1, s2, s3, s4, s5, s6, s7⟩; go_simp
      simp only [Act.put, setIfInBounds_toArray, set_cons_zero, set_cons_succ]
      refine tkA (i := 28) (v := .slice sa' k' sc') ?_ hHeld ?_
      · rintro w9 ⟨s0, s1, s2, s3, s4, s5, s6, s7⟩; go_simp
      simp only [Act.put, setIfInBounds_toArray, set_cons_zero, set_cons_succ]
      refine wpAnyH_ready (rs := [29]) (by kernel_rfl) (by simp) ?_
      refine AllReadyH.cons rfl (fun K hK => ?_) AllReadyH.nil
      go_simp
      refine (eqLSn false sa sa' k k' sc sc' V.S U.S _ VF.out.2.2 HU.out.2.2.1 kk.out hk1 (SV.out.below BR.out) (HU.out.2.2.2.below (B1.out.trans (BR.out.mono B1.out.size))) HX.out.1).mono ?_
      rintro e w3 ⟨rfl, hb3⟩
      dsimp only
      have BQ : Hid (Below w1.heap.size w1 w3) := BR.out.trans (hb3.mono BR.out.size)
      clear hb3
      refine hK.out _ _ (SC.out _ BQ.out) (fun hHeld => ?_)
      clear hK K
      refine tkA (i := 30) (v := .bool false) ?_ hHeld ?_
      · rintro w9 ⟨s0, s1, s2, s3, s4, s5, s6, s7⟩; go_simp
      simp only [Act.put, setIfInBounds_toArray, set_cons_zero, set_cons_succ]
      refine wpAnyH_ready (rs := [31]) (by kernel_rfl) (by simp) ?_
      refine AllReadyH.cons rfl (fun K hK => ?_) AllReadyH.nil
      go_simp
      refine hK.out _ _ (SC.out _ BQ.out) (fun hHeld => ?_)
      clear hK K
      refine wpAnyH_done (by kernel_rfl) ?_ _
      refine NoPanic.normal ?_
      try simp only [Act.put, setIfInBounds_toArray, set_cons_zero, set_cons_succ]
      go_wp2_with fail
      try simp only [Act.put, setIfInBounds_toArray, set_cons_zero, set_cons_succ]
      have BS : Hid (Below w1.heap.size w1 w3.drew) := BQ.out.drew
      refine wp_region_noPanic ?_
      refine wp_region_held_drew (S := (fun w' => w'.cell? ⟨B, 0, none⟩ = some (.int .i64 g) ∧ w'.cell? ⟨B, 1, none⟩ = some (.int .i64 r) ∧ w'.cell? ⟨B, 2, none⟩ = some (.slice sa k sc) ∧ w'.cell? ⟨B, 7, none⟩ = some (.slice ua 50 ud) ∧ w'.cell? ⟨w.heap.size, 4, none⟩ = some (.int .i64 g) ∧ w'.cell? ⟨w.heap.size, 5, none⟩ = some (.int .i64 r) ∧ w'.cell? ⟨w.heap.size, 6, none⟩ = some (.slice sa' k' sc') ∧ w'.cell? ⟨w.heap.size, 7, none⟩ = some (.slice ha m hc))) (by kernel_rfl) (SC.out _ BS.out) (fun hHeld => ?_)
      refine tkA (i := 0) (v := .pointer (some ⟨B, 0, none⟩)) ?_ hHeld ?_
      · rintro w9 ⟨s0, s1, s2, s3, s4, s5, s6, s7⟩; go_simp
      simp only [Act.put, setIfInBounds_toArray, set_cons_zero, set_cons_succ]
      refine tkA (i := 1) (v := .bool false) ?_ hHeld ?_
      · rintro w9 ⟨s0, s1, s2, s3, s4, s5, s6, s7⟩; go_simp
      simp only [Act.put, setIfInBounds_toArray, set_cons_zero, set_cons_succ]
      refine tkA (i := 2) (v := .bool false) ?_ hHeld ?_
      · rintro w9 ⟨s0, s1, s2, s3, s4, s5, s6, s7⟩; go_simp
      simp only [Act.put, setIfInBounds_toArray, set_cons_zero, set_cons_succ]
      refine skA (i := 3) hHeld ?_
      simp only [Act.put, setIfInBounds_toArray, set_cons_zero, set_cons_succ]
      refine skA (i := 4) hHeld ?_
      simp only [Act.put, setIfInBounds_toArray, set_cons_zero, set_cons_succ]
      refine skA (i := 5) hHeld ?_
      simp only [Act.put, setIfInBounds_toArray, set_cons_zero, set_cons_succ]
      refine skA (i := 6) hHeld ?_
      simp only [Act.put, setIfInBounds_toArray, set_cons_zero, set_cons_succ]
      refine skA (i := 7) hHeld ?_
      simp only [Act.put, setIfInBounds_toArray, set_cons_zero, set_cons_succ]
      refine skA (i := 8) hHeld ?_
      simp only [Act.put, setIfInBounds_toArray, set_cons_zero, set_cons_succ]
      refine skA (i := 9) hHeld ?_
      simp only [Act.put, setIfInBounds_toArray, set_cons_zero, set_cons_succ]
      refine skA (i := 10) hHeld ?_
      simp only [Act.put, setIfInBounds_toArray, set_cons_zero, set_cons_succ]
      refine skA (i := 11) hHeld ?_
      simp only [Act.put, setIfInBounds_toArray, set_cons_zero, set_cons_succ]
      refine tkA (i := 12) (v := .bool false) ?_ hHeld ?_
      · rintro w9 ⟨s0, s1, s2, s3, s4, s5, s6, s7⟩; go_simp
      simp only [Act.put, setIfInBounds_toArray, set_cons_zero, set_cons_succ]
      refine tkA (i := 13) (v := .pointer (some ⟨B, 0, none⟩)) ?_ hHeld ?_
      · rintro w9 ⟨s0, s1, s2, s3, s4, s5, s6, s7⟩; go_simp
      simp only [Act.put, setIfInBounds_toArray, set_cons_zero, set_cons_succ]
      refine wpAnyH_ready (rs := [14]) (by kernel_rfl) (by simp) ?_
      refine AllReadyH.cons rfl (fun K hK => ?_) AllReadyH.nil
      go_simp
      refine hK.out _ _ (SC.out _ BS.out) (fun hHeld => ?_)
      clear hK K
      refine wpAnyH_done (by kernel_rfl) ?_ _
      refine NoPanic.normal ?_
      try simp only [Act.put, setIfInBounds_toArray, set_cons_zero, set_cons_succ]
      go_wp2_with fail
      try simp only [Act.put, setIfInBounds_toArray, set_cons_zero, set_cons_succ]
      exact bodyPost_ret (v := .tuple #[.pointer (some ⟨B, 0, none⟩), .bool false]) (by simp [results, Tryz.results40, go_sem]) rfl ⟨_, _, rfl, FF.out, B1.out.trans (BS.out.mono B1.out.size), fun h => by cases h⟩
    | true =>
      have FF : Hid (storeB D U H = y) := by show _ = _; rw [FB.out, e1, e2]; simp
      refine wp_region_noPanic ?_
      refine wp_region_held_drew (S := (fun w' => w'.cell? ⟨B, 0, none⟩ = some (.int .i64 g) ∧ w'.cell? ⟨B, 1, none⟩ = some (.int .i64 r) ∧ w'.cell? ⟨B, 2, none⟩ = some (.slice sa k sc) ∧ w'.cell? ⟨B, 7, none⟩ = some (.slice ua 50 ud) ∧ w'.cell? ⟨w.heap.size, 4, none⟩ = some (.int .i64 g) ∧ w'.cell? ⟨w.heap.size, 5, none⟩ = some (.int .i64 r) ∧ w'.cell? ⟨w.heap.size, 6, none⟩ = some (.slice sa' k' sc') ∧ w'.cell? ⟨w.heap.size, 7, none⟩ = some (.slice ha m hc))) (by kernel_rfl) (SC.out _ BR.out) (fun hHeld => ?_)
      refine tkA (i := 0) (v := .pointer (some ⟨B, 0, none⟩)) ?_ hHeld ?_
      · rintro w9 ⟨s0, s1, s2, s3, s4, s5, s6, s7⟩; go_simp
      simp only [Act.put, setIfInBounds_toArray, set_cons_zero, set_cons_succ]
      refine tkA (i := 1) (v := .pointer (some ⟨B, 0, none⟩)) ?_ hHeld ?_
      · rintro w9 ⟨s0, s1, s2, s3, s4, s5, s6, s7⟩; go_simp
      simp only [Act.put, setIfInBounds_toArray, set_cons_zero, set_cons_succ]
      refine tkA (i := 2) (v := .pointer (some ⟨B, 0, none⟩)) ?_ hHeld ?_
      · rintro w9 ⟨s0, s1, s2, s3, s4, s5, s6, s7⟩; go_simp
      simp only [Act.put, setIfInBounds_toArray, set_cons_zero, set_cons_succ]
      refine tkA (i := 3) (v := .pointer (some ⟨B, 0, none⟩)) ?_ hHeld ?_
      · rintro w9 ⟨s0, s1, s2, s3, s4, s5, s6, s7⟩; go_simp
      simp only [Act.put, setIfInBounds_toArray, set_cons_zero, set_cons_succ]
      refine tkA (i := 4) (v := .int .i64 g) ?_ hHeld ?_
      · rintro w9 ⟨s0, s1, s2, s3, s4, s5, s6, s7⟩; go_simp
      simp only [Act.put, setIfInBounds_toArray, set_cons_zero, set_cons_succ]
      refine tkA (i := 5) (v := .pointer (some ⟨w.heap.size, 4, none⟩)) ?_ hHeld ?_
      · rintro w9 ⟨s0, s1, s2, s3, s4, s5, s6, s7⟩; go_simp
      simp only [Act.put, setIfInBounds_toArray, set_cons_zero, set_cons_succ]
      refine tkA (i := 6) (v := .pointer (some ⟨w.heap.size, 4, none⟩)) ?_ hHeld ?_
      · rintro w9 ⟨s0, s1, s2, s3, s4, s5, s6, s7⟩; go_simp
      simp only [Act.put, setIfInBounds_toArray, set_cons_zero, set_cons_succ]
      refine tkA (i := 7) (v := .int .i64 g) ?_ hHeld ?_
      · rintro w9 ⟨s0, s1, s2, s3, s4, s5, s6, s7⟩; go_simp
      simp only [Act.put, setIfInBounds_toArray, set_cons_zero, set_cons_succ]
      refine tkA (i := 8) (v := .bool true) ?_ hHeld ?_
      · rintro w9 ⟨s0, s1, s2, s3, s4, s5, s6, s7⟩; go_simp
      simp only [Act.put, setIfInBounds_toArray, set_cons_zero, set_cons_succ]
      refine tkA (i := 9) (v := .bool true) ?_ hHeld ?_
      · rintro w9 ⟨s0, s1, s2, s3, s4, s5, s6, s7⟩; go_simp
      simp only [Act.put, setIfInBounds_toArray, set_cons_zero, set_cons_succ]
      refine tkA (i := 10) (v := .pointer (some ⟨B, 0, none⟩)) ?_ hHeld ?_
      · rintro w9 ⟨s0, s1, s2, s3, s4, s5, s6, s7⟩; go_simp
      simp only [Act.put, setIfInBounds_toArray, set_cons_zero, set_cons_succ]
      refine tkA (i := 11) (v := .pointer (some ⟨B, 0, none⟩)) ?_ hHeld ?_
      · rintro w9 ⟨s0, s1, s2, s3, s4, s5, s6, s7⟩; go_simp
      simp only [Act.put, setIfInBounds_toArray, set_cons_zero, set_cons_succ]
      refine tkA (i := 12) (v := .pointer (some ⟨B, 0, none⟩)) ?_ hHeld ?_
      · rintro w9 ⟨s0, s1, s2, s3, s4, s5, s6, s7⟩; go_simp
      simp only [Act.put, setIfInBounds_toArray, set_cons_zero, set_cons_succ]
      refine tkA (i := 13) (v := .pointer (some ⟨B, 1, none⟩)) ?_ hHeld ?_
      · rintro w9 ⟨s0, s1, s2, s3, s4, s5, s6, s7⟩; go_simp
      simp only [Act.put, setIfInBounds_toArray, set_cons_zero, set_cons_succ]
      refine tkA (i := 14) (v := .int .i64 r) ?_ hHeld ?_
      · rintro w9 ⟨s0, s1, s2, s3, s4, s5, s6, s7⟩; go_simp
      simp only [Act.put, setIfInBounds_toArray, set_cons_zero, set_cons_succ]
      refine tkA (i := 15) (v := .pointer (some ⟨w.heap.size, 4, none⟩)) ?_ hHeld ?_
      · rintro w9 ⟨s0, s1, s2, s3, s4, s5, s6, s7⟩; go_simp
      simp only [Act.put, setIfInBounds_toArray, set_cons_zero, set_cons_succ]
      refine tkA (i := 16) (v := .pointer (some ⟨w.heap.size, 5, none⟩)) ?_ hHeld ?_
      · rintro w9 ⟨s0, s1, s2, s3, s4, s5, s6, s7⟩; go_simp
      simp only [Act.put, setIfInBounds_toArray, set_cons_zero, set_cons_succ]
      refine tkA (i := 17) (v := .int .i64 r) ?_ hHeld ?_
      · rintro w9 ⟨s0, s1, s2, s3, s4, s5, s6, s7⟩; go_simp
      simp only [Act.put, setIfInBounds_toArray, set_cons_zero, set_cons_succ]
      refine tkA (i := 18) (v := .bool true) ?_ hHeld ?_
      · rintro w9 ⟨s0, s1, s2, s3, s4, s5, s6, s7⟩; go_simp
      simp only [Act.put, setIfInBounds_toArray, set_cons_zero, set_cons_succ]
      refine tkA (i := 19) (v := .bool true) ?_ hHeld ?_
      · rintro w9 ⟨s0, s1, s2, s3, s4, s5, s6, s7⟩; go_simp
      simp only [Act.put, setIfInBounds_toArray, set_cons_zero, set_cons_succ]
      refine tkA (i := 20) (v := .bool true) ?_ hHeld ?_
      · rintro w9 ⟨s0, s1, s2, s3, s4, s5, s6, s7⟩; go_simp
      simp only [Act.put, setIfInBounds_toArray, set_cons_zero, set_cons_succ]
      refine tkA (i := 21) (v := .pointer (some ⟨B, 0, none⟩)) ?_ hHeld ?_
      · rintro w9 ⟨s0, s1, s2, s3, s4, s5, s6, s7⟩; go_simp
      simp only [Act.put, setIfInBounds_toArray, set_cons_zero, set_cons_succ]
      refine tkA (i := 22) (v := .pointer (some ⟨B, 0, none⟩)) ?_ hHeld ?_
      · rintro w9 ⟨s0, s1, s2, s3, s4, s5, s6, s7⟩; go_simp
      simp only [Act.put, setIfInBounds_toArray, set_cons_zero, set_cons_succ]
      refine tkA (i := 23) (v := .pointer (some ⟨B, 0, none⟩)) ?_ hHeld ?_
      · rintro w9 ⟨s0, s1, s2, s3, s4, s5, s6, s7⟩; go_simp
      simp only [Act.put, setIfInBounds_toArray, set_cons_zero, set_cons_succ]
      refine tkA (i := 24) (v := .pointer (some ⟨B, 2, none⟩)) ?_ hHeld ?_
      · rintro w9 ⟨s0, s1, s2, s3, s4, s5, s6, s7⟩; go_simp
      simp only [Act.put, setIfInBounds_toArray, set_cons_zero, set_cons_succ]
      refine tkA (i := 25) (v := .slice sa k sc) ?_ hHeld ?_
      · rintro w9 ⟨s0, s1, s2, s3, s4, s5, s6, s7⟩; go_simp
      simp only [Act.put, setIfInBounds_toArray, set_cons_zero, set_cons_succ]
      refine tkA (i := 26) (v := .pointer (some ⟨w.heap.size, 4, none⟩)) ?_ hHeld ?_
      · rintro w9 ⟨s0, s1, s2, s3, s4, s5, s6, s7⟩; go_simp
      simp only [Act.put, setIfInBounds_toArray, set_cons_zero, set_cons_succ]
      refine tkA (i := 27) (v := .pointer (some ⟨w.heap.size, 6, none⟩)) ?_ hHeld ?_
      · rintro w9 ⟨s0, s1, s2, s3, s4, s5, s6, s7⟩; go_simp
      simp only [Act.put, setIfInBounds_toArray, set_cons_zero, set_cons_succ]
      refine tkA (i := 28) (v := .slice sa' k' sc') ?_ hHeld ?_
      · rintro w9 ⟨s0, s1, s2, s3, s4, s5, s6, s7⟩; go_simp
      simp only [Act.put, setIfInBounds_toArray, set_cons_zero, set_cons_succ]
      refine wpAnyH_ready (rs := [29]) (by kernel_rfl) (by simp) ?_
      refine AllReadyH.cons rfl (fun K hK => ?_) AllReadyH.nil
      go_simp
      refine (eqLSn true sa sa' k k' sc sc' V.S U.S _ VF.out.2.2 HU.out.2.2.1 kk.out hk1 (SV.out.below BR.out) (HU.out.2.2.2.below (B1.out.trans (BR.out.mono B1.out.size))) HX.out.1).mono ?_
      rintro e w3 ⟨rfl, hb3⟩
      dsimp only
      have BQ : Hid (Below w1.heap.size w1 w3) := BR.out.trans (hb3.mono BR.out.size)
      clear hb3
      refine hK.out _ _ (SC.out _ BQ.out) (fun hHeld => ?_)
      clear hK K
      refine tkA (i := 30) (v := .bool true) ?_ hHeld ?_
      · rintro w9 ⟨s0, s1, s2, s3, s4, s5, s6, s7⟩; go_simp
      simp only [Act.put, setIfInBounds_toArray, set_cons_zero, set_cons_succ]
      refine wpAnyH_ready (rs := [31]) (by kernel_rfl) (by simp) ?_
      refine AllReadyH.cons rfl (fun K hK => ?_) AllReadyH.nil
      go_simp
      refine hK.out _ _ (SC.out _ BQ.out) (fun hHeld => ?_)
      clear hK K
      refine wpAnyH_done (by kernel_rfl) ?_ _
      refine NoPanic.normal ?_
      try simp only [Act.put, setIfInBounds_toArray, set_cons_zero, set_cons_succ]
      go_wp2_with fail
      try simp only [Act.put, setIfInBounds_toArray, set_cons_zero, set_cons_succ]
      have BS : Hid (Below w1.heap.size w1 w3.drew) := BQ.out.drew
      refine wp_region_noPanic ?_
      refine wp_region_held_drew (S := (fun w' => w'.cell? ⟨B, 0, none⟩ = some (.int .i64 g) ∧ w'.cell? ⟨B, 1, none⟩ = some (.int .i64 r) ∧ w'.cell? ⟨B, 2, none⟩ = some (.slice sa k sc) ∧ w'.cell? ⟨B, 7, none⟩ = some (.slice ua 50 ud) ∧ w'.cell? ⟨w.heap.size, 4, none⟩ = some (.int .i64 g) ∧ w'.cell? ⟨w.heap.size, 5, none⟩ = some (.int .i64 r) ∧ w'.cell? ⟨w.heap.size, 6, none⟩ = some (.slice sa' k' sc') ∧ w'.cell? ⟨w.heap.size, 7, none⟩ = some (.slice ha m hc))) (by kernel_rfl) (SC.out _ BS.out) (fun hHeld => ?_)
      refine tkA (i := 0) (v := .pointer (some ⟨B, 0, none⟩)) ?_ hHeld ?_
      · rintro w9 ⟨s0, s1, s2, s3, s4, s5, s6, s7⟩; go_simp
      simp only [Act.put, setIfInBounds_toArray, set_cons_zero, set_cons_succ]
      refine tkA (i := 1) (v := .bool true) ?_ hHeld ?_
      · rintro w9 ⟨s0, s1, s2, s3, s4, s5, s6, s7⟩; go_simp
      simp only [Act.put, setIfInBounds_toArray, set_cons_zero, set_cons_succ]
      refine tkA (i := 2) (v := .bool true) ?_ hHeld ?_
      · rintro w9 ⟨s0, s1, s2, s3, s4, s5, s6, s7⟩; go_simp
      simp only [Act.put, setIfInBounds_toArray, set_cons_zero, set_cons_succ]
      refine tkA (i := 3) (v := .pointer (some ⟨B, 0, none⟩)) ?_ hHeld ?_
      · rintro w9 ⟨s0, s1, s2, s3, s4, s5, s6, s7⟩; go_simp
      simp only [Act.put, setIfInBounds_toArray, set_cons_zero, set_cons_succ]
      refine tkA (i := 4) (v := .pointer (some ⟨B, 0, none⟩)) ?_ hHeld ?_
      · rintro w9 ⟨s0, s1, s2, s3, s4, s5, s6, s7⟩; go_simp
      simp only [Act.put, setIfInBounds_toArray, set_cons_zero, set_cons_succ]
      refine tkA (i := 5) (v := .pointer (some ⟨B, 7, none⟩)) ?_ hHeld ?_
      · rintro w9 ⟨s0, s1, s2, s3, s4, s5, s6, s7⟩; go_simp
      simp only [Act.put, setIfInBounds_toArray, set_cons_zero, set_cons_succ]
      refine tkA (i := 6) (v := .pointer (some ⟨B, 7, none⟩)) ?_ hHeld ?_
      · rintro w9 ⟨s0, s1, s2, s3, s4, s5, s6, s7⟩; go_simp
      simp only [Act.put, setIfInBounds_toArray, set_cons_zero, set_cons_succ]
      refine tkA (i := 7) (v := .slice ua 50 ud) ?_ hHeld ?_
      · rintro w9 ⟨s0, s1, s2, s3, s4, s5, s6, s7⟩; go_simp
      simp only [Act.put, setIfInBounds_toArray, set_cons_zero, set_cons_succ]
      refine tkA (i := 8) (v := .pointer (some ⟨w.heap.size, 7, none⟩)) ?_ hHeld ?_
      · rintro w9 ⟨s0, s1, s2, s3, s4, s5, s6, s7⟩; go_simp
      simp only [Act.put, setIfInBounds_toArray, set_cons_zero, set_cons_succ]
      refine tkA (i := 9) (v := .pointer (some ⟨w.heap.size, 7, none⟩)) ?_ hHeld ?_
      · rintro w9 ⟨s0, s1, s2, s3, s4, s5, s6, s7⟩; go_simp
      simp only [Act.put, setIfInBounds_toArray, set_cons_zero, set_cons_succ]
      refine tkA (i := 10) (v := .slice ha m hc) ?_ hHeld ?_
      · rintro w9 ⟨s0, s1, s2, s3, s4, s5, s6, s7⟩; go_simp
      simp only [Act.put, setIfInBounds_toArray, set_cons_zero, set_cons_succ]
      refine wpAnyH_ready (rs := [11]) (by kernel_rfl) (by simp) ?_
      refine AllReadyH.cons rfl (fun K hK => ?_) AllReadyH.nil
      go_simp
      refine (eqFuncN y ua ha 50 m ud hc (keepH A (pagesM (D.S.drop 2))) H _ (keep_len _ _) HM.out.1 (by omega) hm1 KL.out HM.out.2.1 (RV.out.below BS.out) (HM.out.2.2.below (B1.out.trans (BS.out.mono B1.out.size))) HX.out.2).mono ?_
      rintro e w4 ⟨rfl, hb4⟩
      dsimp only
      have BT : Hid (Below w1.heap.size w1 w4) := BS.out.trans (hb4.mono BS.out.size)
      clear hb4
      refine hK.out _ _ (SC.out _ BT.out) (fun hHeld => ?_)
      clear hK K
      refine tkA (i := 12) (v := .bool y) ?_ hHeld ?_
      · rintro w9 ⟨s0, s1, s2, s3, s4, s5, s6, s7⟩; go_simp
      simp only [Act.put, setIfInBounds_toArray, set_cons_zero, set_cons_succ]
      refine tkA (i := 13) (v := .pointer (some ⟨B, 0, none⟩)) ?_ hHeld ?_
      · rintro w9 ⟨s0, s1, s2, s3, s4, s5, s6, s7⟩; go_simp
      simp only [Act.put, setIfInBounds_toArray, set_cons_zero, set_cons_succ]
      refine wpAnyH_ready (rs := [14]) (by kernel_rfl) (by simp) ?_
      refine AllReadyH.cons rfl (fun K hK => ?_) AllReadyH.nil
      go_simp
      refine hK.out _ _ (SC.out _ BT.out) (fun hHeld => ?_)
      clear hK K
      refine wpAnyH_done (by kernel_rfl) ?_ _
      refine NoPanic.normal ?_
      try simp only [Act.put, setIfInBounds_toArray, set_cons_zero, set_cons_succ]
      go_wp2_with fail
      try simp only [Act.put, setIfInBounds_toArray, set_cons_zero, set_cons_succ]
      exact bodyPost_ret (v := .tuple #[.pointer (some ⟨B, 0, none⟩), .bool y]) (by simp [results, Tryz.results40, go_sem]) rfl ⟨_, _, rfl, FF.out, B1.out.trans (BT.out.mono B1.out.size), fun _ => ⟨B, V, A, rfl, HO.out, OA.out.below BT.out⟩⟩
end Go.Proofs.YtnnimocaanofjaaGreatDoor
