
/-
  The bytes of a node, by the specification. By an AI agent.
-/
import Derived.Test.YtnejklppbjkekaaDoorNob
import Derived.Test.YtnejklppbjkekaaDoorNoks
namespace Go.Proofs.YtnejklppbjkekaaDoor
open Go.ChangeShapes Go.WideShapes Go.ChangeAt Go.RowKit Go.Deep
set_option linter.unusedVariables false
set_option maxRecDepth 100000

set_option maxHeartbeats 4000000 in
theorem l03Bytes (v : Value) (D : NM) (w : World) (hok : okB D = true) (hfr : freeB D = false) (h : ReadsN w v D) :
    Calls Tryd.prog 59 #[v] w fun e w' => ∃ u, e = .returned u ∧ w'.ownsRow w.heap.size 5 1 u (sealB (nodeL D)).length (cellsB (sealB (nodeL D))) ∧ (sealB (nodeL D)).length ≤ 1048576 ∧ Below w.heap.size w w' := by
  obtain ⟨a1, c1, a2, c2, a3, c3, rfl, s1, s2, s3⟩ := h
  have S1 : Hid (Src w a1 (cellsP D.P)) := s1
  have S2 : Hid (Src w a2 (cellsS D.L)) := s2
  have S3 : Hid (Src w a3 (cellsI D.K)) := s3
  obtain ⟨n1, hn1⟩ : ∃ n, D.P.length = n := ⟨_, rfl⟩
  obtain ⟨n2, hn2⟩ : ∃ n, D.L.length = n := ⟨_, rfl⟩
  obtain ⟨n3, hn3⟩ : ∃ n, D.K.length = n := ⟨_, rfl⟩
  obtain ⟨A, hA⟩ : ∃ A, D.A = A := ⟨_, rfl⟩
  have ND : Hid (D.P.length = n1 ∧ D.L.length = n2 ∧ D.K.length = n3) := ⟨hn1, hn2, hn3⟩
  have FA : Hid (n1 ≤ 3 ∧ n3 ≤ 4 ∧ n2 = n3 ∧ (∀ x ∈ D.P, x.1.size ≤ 30 ∧ x.2.size ≤ 90) ∧ (∀ i, i < n3 → 0 ≤ D.K.getD i 0 ∧ D.K.getD i 0 < 50 ∧ (D.L.getD i e0).size ≤ 30) ∧ (A = false → n1 = 0)) := by
    obtain ⟨f1, f2, f3, f4, f5, f6, f7⟩ := okB_facts hok hfr
    rw [hn1] at f1 f4
    rw [hn3] at f2 f3 f7
    rw [hn2] at f3
    rw [hA] at f4
    exact ⟨f1, f2, f3, f6, f7, f4⟩
  have NF : Hid ((nodeF D).length ≤ 10 ∧ ∀ y ∈ nodeF D, y.size ≤ 300) := nodeF_all hok hfr
  have HKA : Hid (kindB D = if A then 108 else 105) := by show _ = _; unfold kindB; rw [hA]
  rw [hn1, hn2, hn3, hA]
  clear hok hfr s1 s2 s3 hn1 hn2 hn3 hA
  cases A with
  | true =>
    go_enter Tryd.func59, Tryd.ntmps59
    go_wp2_with fail
    have L0 : Hid (World.ownsRow ((w.alloc (.cells #[.bool true, .slice a1 n1 c1, .slice a2 n2 c2, .slice a3 n3 c3] 27)).alloc (.cells #[] 9)) (w.heap.size + 1) 9 1 (.slice (some ⟨w.heap.size + 1, 0, none⟩) 0 0) 0 []) := own_empty (by simp) (by simp)
    go_loopw [3, 5] (fun lv iv wr => ∃ (k : Nat) (u : Value), u = lv ∧ k ≤ n1 ∧ iv = .int .i64 k ∧ Hid (Below w.heap.size w wr) ∧ Hid (Box wr w.heap.size [.bool true, .slice a1 n1 c1, .slice a2 n2 c2, .slice a3 n3 c3]) ∧ Hid (wr.ownsRow (w.heap.size + 1) 9 1 u (k * 2) (cellsS (pairF (D.P.take k))))) (fun _ i _ => n1 - (intOf i).toNat)
    case atStart => exact ⟨0, _, rfl, by omega, rfl, ((Below.refl _ _).alloc (Nat.le_refl _) _).alloc (by simp) _, (Box.new rfl).old _, L0.out⟩
    case round =>
      clear L0
      obtain ⟨k, u, hu, hk, rfl, hb, hx, ho⟩ := hrel
      subst hu
      have hn13 : n1 ≤ 3 := FA.out.1
      obtain ⟨z1, _⟩ := hx.out 1 _ rfl
      by_cases hlt : k < n1
      · have hki : (k : Int) < (n1 : Int) := by omega
        have hk0 : (0 : Int) ≤ (k : Int) := by omega
        obtain ⟨pb, po, x, y, rfl, q1, q2, hy⟩ := srcP (S1.out.below hb.out) (i := k) (by rw [ND.out.1]; exact hlt)
        have EC : Hid (∀ w9, Below w.heap.size w w9 → w9.cell? ⟨pb, po + k * 2, none⟩ = some (.string x) ∧ w9.cell? ⟨pb, po + k * 2 + 1, none⟩ = some (.string y)) := fun w9 hb9 => by
          obtain ⟨pb', po', x', y', e', q1', q2', hy'⟩ := srcP (S1.out.below hb9) (i := k) (by rw [ND.out.1]; exact hlt)
          cases e'
          have h9 := hy'.out.symm.trans hy.out
          rw [Prod.mk.injEq] at h9
          rw [q1', q2', h9.1, h9.2]
          exact ⟨rfl, rfl⟩
        have NX : Hid (pairF (D.P.take (k + 1)) = pairF (D.P.take k) ++ [x, y]) := by show _ = _; rw [pairF_take (by rw [ND.out.1]; exact hlt), hy.out]
        have XR : Hid (w.heap.size + 1 ≤ wr.heap.size) := World.block_lt_of_cell? _ _ (hx.out 0 _ rfl).1
        have hlt3 : Hid (∀ g, Value.ownBlock u = some g → w.heap.size + 1 ≤ g ∧ g < wr.heap.size) := fun g e => ho.out.lt g e
        obtain ⟨e0, _⟩ := hx.out 1 _ rfl
        obtain ⟨e1, e2⟩ := EC.out _ hb.out
        have BB : Hid (Below wr.heap.size wr (wr.alloc (.cells #[.string x, .string y] 9)).drew) := ((Below.refl _ _).alloc (Nat.le_refl _) _).drew
        have XB : Hid (Box (wr.alloc (.cells #[.string x, .string y] 9)).drew w.heap.size [.bool true, .slice (some ⟨pb, po, none⟩) n1 c1, .slice a2 n2 c2, .slice a3 n3 c3]) := hx.out.below BB.out
        go_wp2_with fail
        clear z1
        refine wp_region_noPanic ?_
        refine wp_region_held_drew (S := (fun w' => w'.cell? ⟨w.heap.size, 1, none⟩ = some (.slice (some ⟨pb, po, none⟩) n1 c1) ∧ w'.cell? ⟨pb, po + k * 2, none⟩ = some (.string x) ∧ w'.cell? ⟨pb, po + k * 2 + 1, none⟩ = some (.string y))) (by kernel_rfl) ⟨e0, e1, e2⟩ (fun hHeld => ?_)
        refine wpAnyH_take (i := 0) (v := u) rfl (by kernel_rfl) (by kernel_rfl) (by kernel_rfl) (fun _ _ _ h => h) (Or.inl ⟨by rfl, ?_⟩) hHeld ?_
        · intro w9 hSw
          obtain ⟨s0, s1, s2⟩ := hSw
          go_simp
        refine wpAnyH_take (i := 1) (v := .pointer (some ⟨w.heap.size, 1, none⟩)) rfl (by kernel_rfl) (by kernel_rfl) (by kernel_rfl) (fun _ _ _ h => h) (Or.inl ⟨by rfl, ?_⟩) hHeld ?_
        · intro w9 hSw
          obtain ⟨s0, s1, s2⟩ := hSw
          go_simp
        refine wpAnyH_take (i := 2) (v := .slice (some ⟨pb, po, none⟩) n1 c1) rfl (by kernel_rfl) (by kernel_rfl) (by kernel_rfl) (fun _ _ _ h => h) (Or.inl ⟨by rfl, ?_⟩) hHeld ?_
        · intro w9 hSw
          obtain ⟨s0, s1, s2⟩ := hSw
          go_simp
        refine wpAnyH_take (i := 3) (v := .int .i64 (k : Int)) rfl (by kernel_rfl) (by kernel_rfl) (by kernel_rfl) (fun _ _ _ h => h) (Or.inl ⟨by rfl, ?_⟩) hHeld ?_
        · intro w9 hSw
          obtain ⟨s0, s1, s2⟩ := hSw
          go_simp
        refine wpAnyH_take (i := 4) (v := .pointer (some ⟨pb, po + k * 2, none⟩)) rfl (by kernel_rfl) (by kernel_rfl) (by kernel_rfl) (fun _ _ _ h => h) (Or.inl ⟨by rfl, ?_⟩) hHeld ?_
        · intro w9 hSw
          obtain ⟨s0, s1, s2⟩ := hSw
          go_simp
        refine wpAnyH_take (i := 5) (v := .pointer (some ⟨pb, po + k * 2, none⟩)) rfl (by kernel_rfl) (by kernel_rfl) (by kernel_rfl) (fun _ _ _ h => h) (Or.inl ⟨by rfl, ?_⟩) hHeld ?_
        · intro w9 hSw
          obtain ⟨s0, s1, s2⟩ := hSw
          go_simp
        refine wpAnyH_take (i := 6) (v := .string x) rfl (by kernel_rfl) (by kernel_rfl) (by kernel_rfl) (fun _ _ _ h => h) (Or.inl ⟨by rfl, ?_⟩) hHeld ?_
        · intro w9 hSw
          obtain ⟨s0, s1, s2⟩ := hSw
          go_simp
        refine wpAnyH_take (i := 7) (v := .pointer (some ⟨w.heap.size, 1, none⟩)) rfl (by kernel_rfl) (by kernel_rfl) (by kernel_rfl) (fun _ _ _ h => h) (Or.inl ⟨by rfl, ?_⟩) hHeld ?_
        · intro w9 hSw
          obtain ⟨s0, s1, s2⟩ := hSw
          go_simp
        refine wpAnyH_take (i := 8) (v := .slice (some ⟨pb, po, none⟩) n1 c1) rfl (by kernel_rfl) (by kernel_rfl) (by kernel_rfl) (fun _ _ _ h => h) (Or.inl ⟨by rfl, ?_⟩) hHeld ?_
        · intro w9 hSw
          obtain ⟨s0, s1, s2⟩ := hSw
          go_simp
        refine wpAnyH_take (i := 9) (v := .int .i64 (k : Int)) rfl (by kernel_rfl) (by kernel_rfl) (by kernel_rfl) (fun _ _ _ h => h) (Or.inl ⟨by rfl, ?_⟩) hHeld ?_
        · intro w9 hSw
          obtain ⟨s0, s1, s2⟩ := hSw
          go_simp
        refine wpAnyH_take (i := 10) (v := .pointer (some ⟨pb, po + k * 2, none⟩)) rfl (by kernel_rfl) (by kernel_rfl) (by kernel_rfl) (fun _ _ _ h => h) (Or.inl ⟨by rfl, ?_⟩) hHeld ?_
        · intro w9 hSw
          obtain ⟨s0, s1, s2⟩ := hSw
          go_simp
        refine wpAnyH_take (i := 11) (v := .pointer (some ⟨pb, po + k * 2 + 1, none⟩)) rfl (by kernel_rfl) (by kernel_rfl) (by kernel_rfl) (fun _ _ _ h => h) (Or.inl ⟨by rfl, ?_⟩) hHeld ?_
        · intro w9 hSw
          obtain ⟨s0, s1, s2⟩ := hSw
          go_simp
        refine wpAnyH_take (i := 12) (v := .string y) rfl (by kernel_rfl) (by kernel_rfl) (by kernel_rfl) (fun _ _ _ h => h) (Or.inl ⟨by rfl, ?_⟩) hHeld ?_
        · intro w9 hSw
          obtain ⟨s0, s1, s2⟩ := hSw
          go_simp
        refine wpAnyH_ready (rs := [13]) (by kernel_rfl) (by simp) ?_
        refine AllReadyH.cons rfl (fun K hK => ?_) AllReadyH.nil
        go_simp
        clear e0 e1 e2
        obtain ⟨e0, _⟩ := XB.out 1 _ rfl
        obtain ⟨e1, e2⟩ := EC.out _ (hb.out.trans (BB.out.mono hb.out.size))
        refine hK.out _ _ ⟨e0, e1, e2⟩ (fun hHeld => ?_)
        clear hK K
        refine wpAnyH_ready (rs := [14]) (by kernel_rfl) (by simp) ?_
        refine AllReadyH.cons rfl (fun K hK => ?_) AllReadyH.nil
        refine step_append_src rfl (.tmp 17) (.tmp 30) 24 rfl (w.heap.size + 1) 9 (.string ⟨#[]⟩) 1 16 Tryd.underlying24 infoS rfl (by decide) (by decide) u (k * 2) (cellsS (pairF (D.P.take k))) (by simp [Act.eval]) (own_below ho.out BB.out) ⟨wr.heap.size, 0, none⟩ 2 2 (cellsS [x, y]) (by simp [Act.eval]) rfl (src_twoS (w := wr) rfl) (cellsS_one _) (by omega) (by omega) (Nat.le_trans XR.out BB.out.size) ?_
        intro v3 w3 hown3 hgrow3 _
        have O3 : Hid (w3.ownsRow (w.heap.size + 1) 9 1 v3 ((k + 1) * 2) (cellsS (pairF (D.P.take (k + 1))))) := (by rw [NX.out, cellsS_append, show (k + 1) * 2 = k * 2 + 2 from by omega]; exact hown3)
        have B3 : Hid (Below w.heap.size w w3) := (hb.out.trans (BB.out.mono hb.out.size)).grown hgrow3 (Nat.le_trans hb.out.size BB.out.size) (fun g e => by have h9 := (hlt3.out g e).1; omega)
        have X3 : Hid (Box w3 w.heap.size [.bool true, .slice (some ⟨pb, po, none⟩) n1 c1, .slice a2 n2 c2, .slice a3 n3 c3]) := Box.grown XB.out hgrow3 (fun e => by have h9 := (hlt3.out _ e).1; omega)
        clear hown3 hgrow3 e0 e1 e2
        obtain ⟨e0, _⟩ := X3.out 1 _ rfl
        obtain ⟨e1, e2⟩ := EC.out _ B3.out
        refine hK.out _ _ ⟨e0, e1, e2⟩ (fun hHeld => ?_)
        clear hK K
        refine wpAnyH_ready (rs := [15]) (by kernel_rfl) (by simp) ?_
        refine AllReadyH.cons rfl (fun K hK => ?_) AllReadyH.nil
        go_simp
        refine hK.out _ _ ⟨e0, e1, e2⟩ (fun hHeld => ?_)
        clear hK K
        refine wpAnyH_done (by kernel_rfl) ?_ _
        refine NoPanic.normal ?_
        go_wp2_with fail
        exact ⟨⟨k + 1, _, rfl, by omega, by go_num, B3.out, X3.out, O3.out⟩, by simp [intOf]; omega⟩
      · have hkn : k = n1 := by omega
        have FO : Hid (wr.ownsRow (w.heap.size + 1) 9 1 u (n1 * 2) (cellsS (pairF D.P ++ (kidsF D.K D.L).take 0))) := by
          have h9 := ho.out
          rw [hkn, List.take_of_length_le (by rw [ND.out.1]; exact Nat.le_refl _)] at h9
          show wr.ownsRow _ _ _ _ _ (cellsS (pairF D.P ++ (kidsF D.K D.L).take 0))
          simpa using h9
        have HB0 : Hid (Below w.heap.size w wr) := hb
        have HX0 : Hid (Box wr w.heap.size [.bool true, .slice a1 n1 c1, .slice a2 n2 c2, .slice a3 n3 c3]) := hx
        clear hkn ho hb hx
        go_wp2_with fail
        clear z1
        go_loopw [3, 6] (fun lv iv wr => ∃ (k : Nat) (u : Value), u = lv ∧ k ≤ n3 ∧ iv = .int .i64 k ∧ Hid (Below w.heap.size w wr) ∧ Hid (Box wr w.heap.size [.bool true, .slice a1 n1 c1, .slice a2 n2 c2, .slice a3 n3 c3]) ∧ Hid (wr.ownsRow (w.heap.size + 1) 9 1 u (n1 * 2 + k) (cellsS (pairF D.P ++ (kidsF D.K D.L).take k)))) (fun _ i _ => n3 - (intOf i).toNat)
        case atStart => exact ⟨0, _, rfl, by omega, rfl, HB0.out, HX0.out, FO.out⟩
        case round =>
          clear FO HB0 HX0
          obtain ⟨k, u, hu, hk, rfl, hb, hx, ho⟩ := hrel
          subst hu
          have f1 : n1 ≤ 3 := FA.out.1
          have f2 : n3 ≤ 4 := FA.out.2.1
          have f3 : n2 ≤ n3 ∧ n3 ≤ n2 := ⟨Nat.le_of_eq FA.out.2.2.1, Nat.le_of_eq FA.out.2.2.1.symm⟩
          obtain ⟨z3, _⟩ := hx.out 3 _ rfl
          by_cases hlt : k < n3
          · have hki : (k : Int) < (n3 : Int) := by omega
            have hki2 : (k : Int) < (n2 : Int) := by omega
            have hk0 : (0 : Int) ≤ (k : Int) := by omega
            obtain ⟨kb, ko, q, rfl, qc, hq⟩ := srcI (S3.out.below hb.out) (i := k) (by rw [ND.out.2.2]; exact hlt)
            obtain ⟨lb, lo, y, rfl, yc, hy⟩ := srcS (S2.out.below hb.out) (i := k) (by rw [ND.out.2.1]; omega)
            have EC : Hid (∀ w9, Below w.heap.size w w9 → w9.cell? ⟨kb, ko + k, none⟩ = some (.int .i64 q) ∧ w9.cell? ⟨lb, lo + k, none⟩ = some (.string y)) := fun w9 hb9 => by
              obtain ⟨lb', lo', y', e', yc', hy'⟩ := srcS (S2.out.below hb9) (i := k) (by rw [ND.out.2.1]; omega)
              cases e'
              obtain ⟨kb', ko', q', e', qc', hq'⟩ := srcI (S3.out.below hb9) (i := k) (by rw [ND.out.2.2]; exact hlt)
              cases e'
              rw [yc', qc', ← hy'.out, hy.out, ← hq'.out, hq.out]
              exact ⟨rfl, rfl⟩
            have FK : 0 ≤ q ∧ q < 50 ∧ y.size ≤ 30 := by
              have h9 := FA.out.2.2.2.2.1 k hlt
              rw [hq.out, hy.out] at h9
              exact h9
            obtain ⟨f6, f7, f8⟩ := FK
            have hw3 : IntKind.u8.wrap q = q := by rw [IntKind.wrap_u8]; omega
            obtain ⟨ss, hss⟩ : ∃ ss, strB [q.toNat % 256] = ss := ⟨_, rfl⟩
            have hs1 : ss.size = 1 := by rw [← hss, strB_size]; rfl
            have hcat : ¬ 9223372036854775807 < 1 + y.size := by omega
            have HSS : Hid ((convert 22 9 (.slice (some ⟨wr.heap.size, 0, none⟩) 1 1)).run Tryd.prog (wr.alloc (.cells #[.int .u8 q] 5)).drew = .ok (.string ss) (wr.alloc (.cells #[.int .u8 q] 5)).drew) := by
              show _ = _
              rw [← hss]
              exact conv_sub (w := (wr.alloc (.cells #[.int .u8 q] 5)).drew) (c := 1) (B := [q.toNat % 256]) (src_oneB (w := wr) (t := 5) rfl (by omega)) (s := 1) (Nat.le_refl _)
            have NX : Hid (pairF D.P ++ (kidsF D.K D.L).take (k + 1) = pairF D.P ++ (kidsF D.K D.L).take k ++ [ss ++ y]) := by
              show _ = _
              rw [kidsF_take (by rw [ND.out.2.2]; exact hlt), hq.out, hy.out, ← hss, List.append_assoc]
              rfl
            clear hss
            have XR : Hid (w.heap.size + 1 ≤ wr.heap.size) := World.block_lt_of_cell? _ _ (hx.out 0 _ rfl).1
            have hlt3 : Hid (∀ g, Value.ownBlock u = some g → w.heap.size + 1 ≤ g ∧ g < wr.heap.size) := fun g e => ho.out.lt g e
            obtain ⟨e0, _⟩ := hx.out 3 _ rfl
            obtain ⟨e1, _⟩ := hx.out 2 _ rfl
            obtain ⟨e2, e3⟩ := EC.out _ hb.out
            have BA : Hid (Below wr.heap.size wr (wr.alloc (.cells #[.int .u8 q] 5)).drew) := ((Below.refl _ _).alloc (Nat.le_refl _) _).drew
            have BB : Hid (Below wr.heap.size wr ((wr.alloc (.cells #[.int .u8 q] 5)).drew.alloc (.cells #[.string (ss ++ y)] 9))) := BA.out.alloc BA.out.size _
            have XA : Hid (Box (wr.alloc (.cells #[.int .u8 q] 5)).drew w.heap.size [.bool true, .slice a1 n1 c1, .slice (some ⟨lb, lo, none⟩) n2 c2, .slice (some ⟨kb, ko, none⟩) n3 c3]) := hx.out.below BA.out
            have XB : Hid (Box ((wr.alloc (.cells #[.int .u8 q] 5)).drew.alloc (.cells #[.string (ss ++ y)] 9)) w.heap.size [.bool true, .slice a1 n1 c1, .slice (some ⟨lb, lo, none⟩) n2 c2, .slice (some ⟨kb, ko, none⟩) n3 c3]) := hx.out.below BB.out
            go_wp2_with fail
            clear z3
            refine wp_region_noPanic ?_
            refine wp_region_held_drew (S := (fun w' => w'.cell? ⟨w.heap.size, 3, none⟩ = some (.slice (some ⟨kb, ko, none⟩) n3 c3) ∧ w'.cell? ⟨w.heap.size, 2, none⟩ = some (.slice (some ⟨lb, lo, none⟩) n2 c2) ∧ w'.cell? ⟨kb, ko + k, none⟩ = some (.int .i64 q) ∧ w'.cell? ⟨lb, lo + k, none⟩ = some (.string y))) (by kernel_rfl) ⟨e0, e1, e2, e3⟩ (fun hHeld => ?_)
            refine wpAnyH_take (i := 0) (v := u) rfl (by kernel_rfl) (by kernel_rfl) (by kernel_rfl) (fun _ _ _ h => h) (Or.inl ⟨by rfl, ?_⟩) hHeld ?_
            · intro w9 hSw
              obtain ⟨s0, s1, s2, s3⟩ := hSw
              go_simp
            refine wpAnyH_take (i := 1) (v := .pointer (some ⟨w.heap.size, 3, none⟩)) rfl (by kernel_rfl) (by kernel_rfl) (by kernel_rfl) (fun _ _ _ h => h) (Or.inl ⟨by rfl, ?_⟩) hHeld ?_
            · intro w9 hSw
              obtain ⟨s0, s1, s2, s3⟩ := hSw
              go_simp
            refine wpAnyH_take (i := 2) (v := .slice (some ⟨kb, ko, none⟩) n3 c3) rfl (by kernel_rfl) (by kernel_rfl) (by kernel_rfl) (fun _ _ _ h => h) (Or.inl ⟨by rfl, ?_⟩) hHeld ?_
            · intro w9 hSw
              obtain ⟨s0, s1, s2, s3⟩ := hSw
              go_simp
            refine wpAnyH_take (i := 3) (v := .int .i64 (k : Int)) rfl (by kernel_rfl) (by kernel_rfl) (by kernel_rfl) (fun _ _ _ h => h) (Or.inl ⟨by rfl, ?_⟩) hHeld ?_
            · intro w9 hSw
              obtain ⟨s0, s1, s2, s3⟩ := hSw
              go_simp
            refine wpAnyH_take (i := 4) (v := .pointer (some ⟨kb, ko + k, none⟩)) rfl (by kernel_rfl) (by kernel_rfl) (by kernel_rfl) (fun _ _ _ h => h) (Or.inl ⟨by rfl, ?_⟩) hHeld ?_
            · intro w9 hSw
              obtain ⟨s0, s1, s2, s3⟩ := hSw
              go_simp
            refine wpAnyH_take (i := 5) (v := .int .i64 q) rfl (by kernel_rfl) (by kernel_rfl) (by kernel_rfl) (fun _ _ _ h => h) (Or.inl ⟨by rfl, ?_⟩) hHeld ?_
            · intro w9 hSw
              obtain ⟨s0, s1, s2, s3⟩ := hSw
              go_simp
            refine wpAnyH_take (i := 6) (v := .int .u8 q) rfl (by kernel_rfl) (by kernel_rfl) (by kernel_rfl) (fun _ _ _ h => h) (Or.inl ⟨by rfl, ?_⟩) hHeld ?_
            · intro w9 hSw
              obtain ⟨s0, s1, s2, s3⟩ := hSw
              go_simp
            refine wpAnyH_take (i := 9) (v := .pointer (some ⟨w.heap.size, 2, none⟩)) rfl (by kernel_rfl) (by kernel_rfl) (by kernel_rfl) (fun _ _ _ h => h) (Or.inl ⟨by rfl, ?_⟩) hHeld ?_
            · intro w9 hSw
              obtain ⟨s0, s1, s2, s3⟩ := hSw
              go_simp
            refine wpAnyH_take (i := 10) (v := .slice (some ⟨lb, lo, none⟩) n2 c2) rfl (by kernel_rfl) (by kernel_rfl) (by kernel_rfl) (fun _ _ _ h => h) (Or.inl ⟨by rfl, ?_⟩) hHeld ?_
            · intro w9 hSw
              obtain ⟨s0, s1, s2, s3⟩ := hSw
              go_simp
            refine wpAnyH_take (i := 11) (v := .int .i64 (k : Int)) rfl (by kernel_rfl) (by kernel_rfl) (by kernel_rfl) (fun _ _ _ h => h) (Or.inl ⟨by rfl, ?_⟩) hHeld ?_
            · intro w9 hSw
              obtain ⟨s0, s1, s2, s3⟩ := hSw
              go_simp
            refine wpAnyH_take (i := 12) (v := .pointer (some ⟨lb, lo + k, none⟩)) rfl (by kernel_rfl) (by kernel_rfl) (by kernel_rfl) (fun _ _ _ h => h) (Or.inl ⟨by rfl, ?_⟩) hHeld ?_
            · intro w9 hSw
              obtain ⟨s0, s1, s2, s3⟩ := hSw
              go_simp
            refine wpAnyH_take (i := 13) (v := .string y) rfl (by kernel_rfl) (by kernel_rfl) (by kernel_rfl) (fun _ _ _ h => h) (Or.inl ⟨by rfl, ?_⟩) hHeld ?_
            · intro w9 hSw
              obtain ⟨s0, s1, s2, s3⟩ := hSw
              go_simp
            refine wpAnyH_ready (rs := [7]) (by kernel_rfl) (by simp) ?_
            refine AllReadyH.cons rfl (fun K hK => ?_) AllReadyH.nil
            go_simp
            clear e0 e1 e2 e3
            obtain ⟨e0, _⟩ := XA.out 3 _ rfl
            obtain ⟨e1, _⟩ := XA.out 2 _ rfl
            obtain ⟨e2, e3⟩ := EC.out _ (hb.out.trans (BA.out.mono hb.out.size))
            refine hK.out _ _ ⟨e0, e1, e2, e3⟩ (fun hHeld => ?_)
            clear hK K
            have hcv := HSS.out
            refine wpAnyH_ready (rs := [8]) (by kernel_rfl) (by simp) ?_
            refine AllReadyH.cons rfl (fun K hK => ?_) AllReadyH.nil
            go_simp
            refine hK.out _ _ ⟨e0, e1, e2, e3⟩ (fun hHeld => ?_)
            clear hK K
            clear hcv
            refine wpAnyH_ready (rs := [14]) (by kernel_rfl) (by simp) ?_
            refine AllReadyH.cons rfl (fun K hK => ?_) AllReadyH.nil
            go_simp
            refine hK.out _ _ ⟨e0, e1, e2, e3⟩ (fun hHeld => ?_)
            clear hK K
            refine wpAnyH_ready (rs := [15]) (by kernel_rfl) (by simp) ?_
            refine AllReadyH.cons rfl (fun K hK => ?_) AllReadyH.nil
            go_simp
            clear e0 e1 e2 e3
            obtain ⟨e0, _⟩ := XB.out 3 _ rfl
            obtain ⟨e1, _⟩ := XB.out 2 _ rfl
            obtain ⟨e2, e3⟩ := EC.out _ (hb.out.trans (BB.out.mono hb.out.size))
            refine hK.out _ _ ⟨e0, e1, e2, e3⟩ (fun hHeld => ?_)
            clear hK K
            refine wpAnyH_ready (rs := [16]) (by kernel_rfl) (by simp) ?_
            refine AllReadyH.cons rfl (fun K hK => ?_) AllReadyH.nil
            refine step_append_src rfl (.tmp 39) (.tmp 54) 24 rfl (w.heap.size + 1) 9 (.string ⟨#[]⟩) 1 16 Tryd.underlying24 infoS rfl (by decide) (by decide) u (n1 * 2 + k) (cellsS (pairF D.P ++ (kidsF D.K D.L).take k)) (by simp [Act.eval]) (own_below ho.out BB.out) ⟨wr.heap.size + 1, 0, none⟩ 1 1 (cellsS [ss ++ y]) (by simp [Act.eval]) rfl (src_oneS (w := (wr.alloc (.cells #[.int .u8 q] 5)).drew) (by simp)) (cellsS_one _) (by omega) (by omega) (Nat.le_trans XR.out BB.out.size) ?_
            intro v3 w3 hown3 hgrow3 _
            have O3 : Hid (w3.ownsRow (w.heap.size + 1) 9 1 v3 (n1 * 2 + (k + 1)) (cellsS (pairF D.P ++ (kidsF D.K D.L).take (k + 1)))) := (by rw [NX.out, cellsS_append]; exact hown3)
            have B3 : Hid (Below w.heap.size w w3) := (hb.out.trans (BB.out.mono hb.out.size)).grown hgrow3 (Nat.le_trans hb.out.size BB.out.size) (fun g e => by have h9 := (hlt3.out g e).1; omega)
            have X3 : Hid (Box w3 w.heap.size [.bool true, .slice a1 n1 c1, .slice (some ⟨lb, lo, none⟩) n2 c2, .slice (some ⟨kb, ko, none⟩) n3 c3]) := Box.grown XB.out hgrow3 (fun e => by have h9 := (hlt3.out _ e).1; omega)
            clear hown3 hgrow3
            clear e0 e1 e2 e3
            obtain ⟨e0, _⟩ := X3.out 3 _ rfl
            obtain ⟨e1, _⟩ := X3.out 2 _ rfl
            obtain ⟨e2, e3⟩ := EC.out _ B3.out
            refine hK.out _ _ ⟨e0, e1, e2, e3⟩ (fun hHeld => ?_)
            clear hK K
            refine wpAnyH_ready (rs := [17]) (by kernel_rfl) (by simp) ?_
            refine AllReadyH.cons rfl (fun K hK => ?_) AllReadyH.nil
            go_simp
            refine hK.out _ _ ⟨e0, e1, e2, e3⟩ (fun hHeld => ?_)
            clear hK K
            refine wpAnyH_done (by kernel_rfl) ?_ _
            refine NoPanic.normal ?_
            go_wp2_with fail
            exact ⟨⟨k + 1, _, rfl, by omega, by go_num, B3.out, X3.out, O3.out⟩, by simp [intOf]; omega⟩
          · have hkn : k = n3 := by omega
            obtain ⟨NL, hNL⟩ : ∃ NL, nodeF D = NL := ⟨_, rfl⟩
            obtain ⟨m, hm⟩ : ∃ m, NL.length = m := ⟨_, rfl⟩
            have LS : Hid (nodeF D = NL ∧ NL.length = m ∧ m ≤ 10 ∧ ∀ y ∈ NL, y.size ≤ 300) := ⟨hNL, hm, by rw [← hm, ← hNL]; exact NF.out.1, by rw [← hNL]; exact NF.out.2⟩
            have FO : Hid (wr.ownsRow (w.heap.size + 1) 9 1 u m (cellsS NL)) := by
              have h9 := ho.out
              have e9 : (nodeF D).length = n1 * 2 + n3 := by unfold nodeF; rw [List.length_append, pairF_length, kidsF_length, ND.out.1, ND.out.2.2]
              rw [hkn, List.take_of_length_le (by rw [kidsF_length, ND.out.2.2]; exact Nat.le_refl _)] at h9
              rw [← hm, ← hNL, e9]
              exact h9
            have XR : Hid (w.heap.size + 1 ≤ wr.heap.size) := World.block_lt_of_cell? _ _ (hx.out 0 _ rfl).1
            obtain ⟨la, lc, rfl, ls, _⟩ := own_src FO.out
            have S9 : Hid (Src wr la (cellsS NL)) := ls
            have BY : Hid (Below wr.heap.size wr (wr.alloc (.cells #[.int .u8 108] 5))) := (Below.refl _ _).alloc (Nat.le_refl _) _
            have W4 : Hid (World.ownsRow (wr.alloc (.cells #[.int .u8 108] 5)) wr.heap.size 5 1 (.slice (some ⟨wr.heap.size, 0, none⟩) 1 1) 1 (cellsB [108])) := own_new (Nat.le_refl _) rfl rfl (by omega) rfl
            clear hkn ho ls hNL hm
            go_wp2_with fail
            refine (l01Fields la m lc NL _ LS.out.2.1 (by have := LS.out.2.2.1; omega) LS.out.2.2.2 (S9.out.below BY.out)).mono ?_
            rintro e w3 ⟨v3, rfl, o3, hb3⟩
            obtain ⟨fa, fc, rfl, fs, _⟩ := own_src o3
            obtain ⟨F0, hF0⟩ : ∃ F0, fieldsB NL = F0 := ⟨_, rfl⟩
            obtain ⟨l, hl⟩ : ∃ l, F0.length = l := ⟨_, rfl⟩
            have HF0 : Hid (fieldsB NL = F0 ∧ F0.length = l ∧ l ≤ 3021 ∧ (∀ x ∈ F0, x < 256)) := ⟨hF0, hl, by rw [← hl, ← hF0]; have := fieldsB_le _ LS.out.2.2.2; have := LS.out.2.1; have := LS.out.2.2.1; omega, by rw [← hF0]; exact fieldsB_lt _⟩
            have BW3 : Hid (Below wr.heap.size wr w3) := BY.out.trans (hb3.mono BY.out.size)
            have Y3 : Hid (w3.ownsRow wr.heap.size 5 1 (.slice (some ⟨wr.heap.size, 0, none⟩) 1 1) 1 (cellsB [108])) := own_below W4.out hb3
            rw [hF0] at fs ⊢
            have FS : Hid (Src w3 fa (cellsB F0)) := fs
            rw [hl]
            clear hb3 o3 fs hF0 hl W4 BY
            have hl9 : l ≤ 3021 := HF0.out.2.2.1
            have SL : Hid (nodeL D = [108] ++ F0) := by show _ = _; unfold nodeL; rw [HKA.out, LS.out.1, HF0.out.1]; rfl
            have Z3 : Hid (wr.heap.size ≤ w3.heap.size) := BW3.out.size
            go_wp2_with (at_builtin; refine wpList_append_src _ rfl _ _ 22 rfl wr.heap.size 5 (.int .u8 0) 1 1 Tryd.underlying22 infoB rfl (by decide) (by decide) _ 1 (cellsB [108]) rfl Y3.out fa l fc (cellsB F0) rfl (by rw [cellsB_length, HF0.out.2.1]; omega) FS.out (cellsB_one _) (by omega) Z3.out ?_)
            intro v4 w4 hown4 hgrow4
            have O4 : Hid (w4.ownsRow wr.heap.size 5 1 v4 (1 + l) (cellsB (nodeL D))) := by rw [SL.out, cellsB_append]; exact hown4
            have BW4 : Hid (Below wr.heap.size wr w4) := BW3.out.grown hgrow4 BW3.out.size (fun g e => by have e2 : some wr.heap.size = some g := e; injection e2 with e3; omega)
            have S4 : Hid ((nodeL D).length = 1 + l ∧ ∀ x ∈ nodeL D, x < 256) := by
              refine ⟨by rw [SL.out, List.length_append, HF0.out.2.1]; rfl, fun x hx => ?_⟩
              rw [SL.out, List.mem_append] at hx
              rcases hx with hx | hx
              · simp at hx; omega
              · exact HF0.out.2.2.2 x hx
            clear hown4 hgrow4 FS Y3
            go_wp2_with fail
            refine (l03Sealed v4 (1 + l) wr.heap.size (nodeL D) _ S4.out.1 (by omega) S4.out.2 BW4.out.size O4.out).mono ?_
            rintro e w5 ⟨v5, rfl, o5, hb5⟩
            have B5 : Hid (Below w.heap.size w w5) := hb.out.trans ((BW4.out.trans hb5).mono hb.out.size)
            have O5 : Hid (w5.ownsRow w.heap.size 5 1 v5 (sealB (nodeL D)).length (cellsB (sealB (nodeL D))) ∧ (sealB (nodeL D)).length ≤ 1048576) := by
              have e5 : (sealB (nodeL D)).length = 1 + l + 4 := by unfold sealB; rw [List.length_append, S4.out.1]; rfl
              rw [e5]
              exact ⟨own_mono o5 hb.out.size, by omega⟩
            clear hb5 o5
            go_wp2_with fail
            go_ret
            exact ⟨_, rfl, O5.out.1, O5.out.2, B5.out⟩
  | false =>
    have hn10 : Hid (n1 = 0) := FA.out.2.2.2.2.2 rfl
    have FO : Hid (World.ownsRow ((w.alloc (.cells #[.bool false, .slice a1 n1 c1, .slice a2 n2 c2, .slice a3 n3 c3] 27)).alloc (.cells #[] 9)) (w.heap.size + 1) 9 1 (.slice (some ⟨w.heap.size + 1, 0, none⟩) 0 0) (n1 * 2) (cellsS (pairF D.P ++ (kidsF D.K D.L).take 0))) := by
      have e9 : D.P = [] := List.eq_nil_of_length_eq_zero (ND.out.1.trans hn10.out)
      rw [e9, hn10.out]
      exact own_empty (by simp) (by simp)
    have HB0 : Hid (Below w.heap.size w ((w.alloc (.cells #[.bool false, .slice a1 n1 c1, .slice a2 n2 c2, .slice a3 n3 c3] 27)).alloc (.cells #[] 9))) := ((Below.refl _ _).alloc (Nat.le_refl _) _).alloc (by simp) _
    have HX0 : Hid (Box ((w.alloc (.cells #[.bool false, .slice a1 n1 c1, .slice a2 n2 c2, .slice a3 n3 c3] 27)).alloc (.cells #[] 9)) w.heap.size [.bool false, .slice a1 n1 c1, .slice a2 n2 c2, .slice a3 n3 c3]) := (Box.new rfl).old _
    go_enter Tryd.func59, Tryd.ntmps59
    go_wp2_with fail
    go_loopw [3, 6] (fun lv iv wr => ∃ (k : Nat) (u : Value), u = lv ∧ k ≤ n3 ∧ iv = .int .i64 k ∧ Hid (Below w.heap.size w wr) ∧ Hid (Box wr w.heap.size [.bool false, .slice a1 n1 c1, .slice a2 n2 c2, .slice a3 n3 c3]) ∧ Hid (wr.ownsRow (w.heap.size + 1) 9 1 u (n1 * 2 + k) (cellsS (pairF D.P ++ (kidsF D.K D.L).take k)))) (fun _ i _ => n3 - (intOf i).toNat)
    case atStart => exact ⟨0, _, rfl, by omega, rfl, HB0.out, HX0.out, FO.out⟩
    case round =>
      clear FO HB0 HX0
      obtain ⟨k, u, hu, hk, rfl, hb, hx, ho⟩ := hrel
      subst hu
      have f1 : n1 ≤ 3 := FA.out.1
      have f2 : n3 ≤ 4 := FA.out.2.1
      have f3 : n2 ≤ n3 ∧ n3 ≤ n2 := ⟨Nat.le_of_eq FA.out.2.2.1, Nat.le_of_eq FA.out.2.2.1.symm⟩
      obtain ⟨z3, _⟩ := hx.out 3 _ rfl
      by_cases hlt : k < n3
      · have hki : (k : Int) < (n3 : Int) := by omega
        have hki2 : (k : Int) < (n2 : Int) := by omega
        have hk0 : (0 : Int) ≤ (k : Int) := by omega
        obtain ⟨kb, ko, q, rfl, qc, hq⟩ := srcI (S3.out.below hb.out) (i := k) (by rw [ND.out.2.2]; exact hlt)
        obtain ⟨lb, lo, y, rfl, yc, hy⟩ := srcS (S2.out.below hb.out) (i := k) (by rw [ND.out.2.1]; omega)
        have EC : Hid (∀ w9, Below w.heap.size w w9 → w9.cell? ⟨kb, ko + k, none⟩ = some (.int .i64 q) ∧ w9.cell? ⟨lb, lo + k, none⟩ = some (.string y)) := fun w9 hb9 => by
          obtain ⟨lb', lo', y', e', yc', hy'⟩ := srcS (S2.out.below hb9) (i := k) (by rw [ND.out.2.1]; omega)
          cases e'
          obtain ⟨kb', ko', q', e', qc', hq'⟩ := srcI (S3.out.below hb9) (i := k) (by rw [ND.out.2.2]; exact hlt)
          cases e'
          rw [yc', qc', ← hy'.out, hy.out, ← hq'.out, hq.out]
          exact ⟨rfl, rfl⟩
        have FK : 0 ≤ q ∧ q < 50 ∧ y.size ≤ 30 := by
          have h9 := FA.out.2.2.2.2.1 k hlt
          rw [hq.out, hy.out] at h9
          exact h9
        obtain ⟨f6, f7, f8⟩ := FK
        have hw3 : IntKind.u8.wrap q = q := by rw [IntKind.wrap_u8]; omega
        obtain ⟨ss, hss⟩ : ∃ ss, strB [q.toNat % 256] = ss := ⟨_, rfl⟩
        have hs1 : ss.size = 1 := by rw [← hss, strB_size]; rfl
        have hcat : ¬ 9223372036854775807 < 1 + y.size := by omega
        have HSS : Hid ((convert 22 9 (.slice (some ⟨wr.heap.size, 0, none⟩) 1 1)).run Tryd.prog (wr.alloc (.cells #[.int .u8 q] 5)).drew = .ok (.string ss) (wr.alloc (.cells #[.int .u8 q] 5)).drew) := by
          show _ = _
          rw [← hss]
          exact conv_sub (w := (wr.alloc (.cells #[.int .u8 q] 5)).drew) (c := 1) (B := [q.toNat % 256]) (src_oneB (w := wr) (t := 5) rfl (by omega)) (s := 1) (Nat.le_refl _)
        have NX : Hid (pairF D.P ++ (kidsF D.K D.L).take (k + 1) = pairF D.P ++ (kidsF D.K D.L).take k ++ [ss ++ y]) := by
          show _ = _
          rw [kidsF_take (by rw [ND.out.2.2]; exact hlt), hq.out, hy.out, ← hss, List.append_assoc]
          rfl
        clear hss
        have XR : Hid (w.heap.size + 1 ≤ wr.heap.size) := World.block_lt_of_cell? _ _ (hx.out 0 _ rfl).1
        have hlt3 : Hid (∀ g, Value.ownBlock u = some g → w.heap.size + 1 ≤ g ∧ g < wr.heap.size) := fun g e => ho.out.lt g e
        obtain ⟨e0, _⟩ := hx.out 3 _ rfl
        obtain ⟨e1, _⟩ := hx.out 2 _ rfl
        obtain ⟨e2, e3⟩ := EC.out _ hb.out
        have BA : Hid (Below wr.heap.size wr (wr.alloc (.cells #[.int .u8 q] 5)).drew) := ((Below.refl _ _).alloc (Nat.le_refl _) _).drew
        have BB : Hid (Below wr.heap.size wr ((wr.alloc (.cells #[.int .u8 q] 5)).drew.alloc (.cells #[.string (ss ++ y)] 9))) := BA.out.alloc BA.out.size _
        have XA : Hid (Box (wr.alloc (.cells #[.int .u8 q] 5)).drew w.heap.size [.bool false, .slice a1 n1 c1, .slice (some ⟨lb, lo, none⟩) n2 c2, .slice (some ⟨kb, ko, none⟩) n3 c3]) := hx.out.below BA.out
        have XB : Hid (Box ((wr.alloc (.cells #[.int .u8 q] 5)).drew.alloc (.cells #[.string (ss ++ y)] 9)) w.heap.size [.bool false, .slice a1 n1 c1, .slice (some ⟨lb, lo, none⟩) n2 c2, .slice (some ⟨kb, ko, none⟩) n3 c3]) := hx.out.below BB.out
        go_wp2_with fail
        clear z3
        refine wp_region_noPanic ?_
        refine wp_region_held_drew (S := (fun w' => w'.cell? ⟨w.heap.size, 3, none⟩ = some (.slice (some ⟨kb, ko, none⟩) n3 c3) ∧ w'.cell? ⟨w.heap.size, 2, none⟩ = some (.slice (some ⟨lb, lo, none⟩) n2 c2) ∧ w'.cell? ⟨kb, ko + k, none⟩ = some (.int .i64 q) ∧ w'.cell? ⟨lb, lo + k, none⟩ = some (.string y))) (by kernel_rfl) ⟨e0, e1, e2, e3⟩ (fun hHeld => ?_)
        refine wpAnyH_take (i := 0) (v := u) rfl (by kernel_rfl) (by kernel_rfl) (by kernel_rfl) (fun _ _ _ h => h) (Or.inl ⟨by rfl, ?_⟩) hHeld ?_
        · intro w9 hSw
          obtain ⟨s0, s1, s2, s3⟩ := hSw
          go_simp
        refine wpAnyH_take (i := 1) (v := .pointer (some ⟨w.heap.size, 3, none⟩)) rfl (by kernel_rfl) (by kernel_rfl) (by kernel_rfl) (fun _ _ _ h => h) (Or.inl ⟨by rfl, ?_⟩) hHeld ?_
        · intro w9 hSw
          obtain ⟨s0, s1, s2, s3⟩ := hSw
          go_simp
        refine wpAnyH_take (i := 2) (v := .slice (some ⟨kb, ko, none⟩) n3 c3) rfl (by kernel_rfl) (by kernel_rfl) (by kernel_rfl) (fun _ _ _ h => h) (Or.inl ⟨by rfl, ?_⟩) hHeld ?_
        · intro w9 hSw
          obtain ⟨s0, s1, s2, s3⟩ := hSw
          go_simp
        refine wpAnyH_take (i := 3) (v := .int .i64 (k : Int)) rfl (by kernel_rfl) (by kernel_rfl) (by kernel_rfl) (fun _ _ _ h => h) (Or.inl ⟨by rfl, ?_⟩) hHeld ?_
        · intro w9 hSw
          obtain ⟨s0, s1, s2, s3⟩ := hSw
          go_simp
        refine wpAnyH_take (i := 4) (v := .pointer (some ⟨kb, ko + k, none⟩)) rfl (by kernel_rfl) (by kernel_rfl) (by kernel_rfl) (fun _ _ _ h => h) (Or.inl ⟨by rfl, ?_⟩) hHeld ?_
        · intro w9 hSw
          obtain ⟨s0, s1, s2, s3⟩ := hSw
          go_simp
        refine wpAnyH_take (i := 5) (v := .int .i64 q) rfl (by kernel_rfl) (by kernel_rfl) (by kernel_rfl) (fun _ _ _ h => h) (Or.inl ⟨by rfl, ?_⟩) hHeld ?_
        · intro w9 hSw
          obtain ⟨s0, s1, s2, s3⟩ := hSw
          go_simp
        refine wpAnyH_take (i := 6) (v := .int .u8 q) rfl (by kernel_rfl) (by kernel_rfl) (by kernel_rfl) (fun _ _ _ h => h) (Or.inl ⟨by rfl, ?_⟩) hHeld ?_
        · intro w9 hSw
          obtain ⟨s0, s1, s2, s3⟩ := hSw
          go_simp
        refine wpAnyH_take (i := 9) (v := .pointer (some ⟨w.heap.size, 2, none⟩)) rfl (by kernel_rfl) (by kernel_rfl) (by kernel_rfl) (fun _ _ _ h => h) (Or.inl ⟨by rfl, ?_⟩) hHeld ?_
        · intro w9 hSw
          obtain ⟨s0, s1, s2, s3⟩ := hSw
          go_simp
        refine wpAnyH_take (i := 10) (v := .slice (some ⟨lb, lo, none⟩) n2 c2) rfl (by kernel_rfl) (by kernel_rfl) (by kernel_rfl) (fun _ _ _ h => h) (Or.inl ⟨by rfl, ?_⟩) hHeld ?_
        · intro w9 hSw
          obtain ⟨s0, s1, s2, s3⟩ := hSw
          go_simp
        refine wpAnyH_take (i := 11) (v := .int .i64 (k : Int)) rfl (by kernel_rfl) (by kernel_rfl) (by kernel_rfl) (fun _ _ _ h => h) (Or.inl ⟨by rfl, ?_⟩) hHeld ?_
        · intro w9 hSw
          obtain ⟨s0, s1, s2, s3⟩ := hSw
          go_simp
        refine wpAnyH_take (i := 12) (v := .pointer (some ⟨lb, lo + k, none⟩)) rfl (by kernel_rfl) (by kernel_rfl) (by kernel_rfl) (fun _ _ _ h => h) (Or.inl ⟨by rfl, ?_⟩) hHeld ?_
        · intro w9 hSw
          obtain ⟨s0, s1, s2, s3⟩ := hSw
          go_simp
        refine wpAnyH_take (i := 13) (v := .string y) rfl (by kernel_rfl) (by kernel_rfl) (by kernel_rfl) (fun _ _ _ h => h) (Or.inl ⟨by rfl, ?_⟩) hHeld ?_
        · intro w9 hSw
          obtain ⟨s0, s1, s2, s3⟩ := hSw
          go_simp
        refine wpAnyH_ready (rs := [7]) (by kernel_rfl) (by simp) ?_
        refine AllReadyH.cons rfl (fun K hK => ?_) AllReadyH.nil
        go_simp
        clear e0 e1 e2 e3
        obtain ⟨e0, _⟩ := XA.out 3 _ rfl
        obtain ⟨e1, _⟩ := XA.out 2 _ rfl
        obtain ⟨e2, e3⟩ := EC.out _ (hb.out.trans (BA.out.mono hb.out.size))
        refine hK.out _ _ ⟨e0, e1, e2, e3⟩ (fun hHeld => ?_)
        clear hK K
        have hcv := HSS.out
        refine wpAnyH_ready (rs := [8]) (by kernel_rfl) (by simp) ?_
        refine AllReadyH.cons rfl (fun K hK => ?_) AllReadyH.nil
        go_simp
        refine hK.out _ _ ⟨e0, e1, e2, e3⟩ (fun hHeld => ?_)
        clear hK K
        clear hcv
        refine wpAnyH_ready (rs := [14]) (by kernel_rfl) (by simp) ?_
        refine AllReadyH.cons rfl (fun K hK => ?_) AllReadyH.nil
        go_simp
        refine hK.out _ _ ⟨e0, e1, e2, e3⟩ (fun hHeld => ?_)
        clear hK K
        refine wpAnyH_ready (rs := [15]) (by kernel_rfl) (by simp) ?_
        refine AllReadyH.cons rfl (fun K hK => ?_) AllReadyH.nil
        go_simp
        clear e0 e1 e2 e3
        obtain ⟨e0, _⟩ := XB.out 3 _ rfl
        obtain ⟨e1, _⟩ := XB.out 2 _ rfl
        obtain ⟨e2, e3⟩ := EC.out _ (hb.out.trans (BB.out.mono hb.out.size))
        refine hK.out _ _ ⟨e0, e1, e2, e3⟩ (fun hHeld => ?_)
        clear hK K
        refine wpAnyH_ready (rs := [16]) (by kernel_rfl) (by simp) ?_
        refine AllReadyH.cons rfl (fun K hK => ?_) AllReadyH.nil
        refine step_append_src rfl (.tmp 39) (.tmp 54) 24 rfl (w.heap.size + 1) 9 (.string ⟨#[]⟩) 1 16 Tryd.underlying24 infoS rfl (by decide) (by decide) u (n1 * 2 + k) (cellsS (pairF D.P ++ (kidsF D.K D.L).take k)) (by simp [Act.eval]) (own_below ho.out BB.out) ⟨wr.heap.size + 1, 0, none⟩ 1 1 (cellsS [ss ++ y]) (by simp [Act.eval]) rfl (src_oneS (w := (wr.alloc (.cells #[.int .u8 q] 5)).drew) (by simp)) (cellsS_one _) (by omega) (by omega) (Nat.le_trans XR.out BB.out.size) ?_
        intro v3 w3 hown3 hgrow3 _
        have O3 : Hid (w3.ownsRow (w.heap.size + 1) 9 1 v3 (n1 * 2 + (k + 1)) (cellsS (pairF D.P ++ (kidsF D.K D.L).take (k + 1)))) := (by rw [NX.out, cellsS_append]; exact hown3)
        have B3 : Hid (Below w.heap.size w w3) := (hb.out.trans (BB.out.mono hb.out.size)).grown hgrow3 (Nat.le_trans hb.out.size BB.out.size) (fun g e => by have h9 := (hlt3.out g e).1; omega)
        have X3 : Hid (Box w3 w.heap.size [.bool false, .slice a1 n1 c1, .slice (some ⟨lb, lo, none⟩) n2 c2, .slice (some ⟨kb, ko, none⟩) n3 c3]) := Box.grown XB.out hgrow3 (fun e => by have h9 := (hlt3.out _ e).1; omega)
        clear hown3 hgrow3
        clear e0 e1 e2 e3
        obtain ⟨e0, _⟩ := X3.out 3 _ rfl
        obtain ⟨e1, _⟩ := X3.out 2 _ rfl
        obtain ⟨e2, e3⟩ := EC.out _ B3.out
        refine hK.out _ _ ⟨e0, e1, e2, e3⟩ (fun hHeld => ?_)
        clear hK K
        refine wpAnyH_ready (rs := [17]) (by kernel_rfl) (by simp) ?_
        refine AllReadyH.cons rfl (fun K hK => ?_) AllReadyH.nil
        go_simp
        refine hK.out _ _ ⟨e0, e1, e2, e3⟩ (fun hHeld => ?_)
        clear hK K
        refine wpAnyH_done (by kernel_rfl) ?_ _
        refine NoPanic.normal ?_
        go_wp2_with fail
        exact ⟨⟨k + 1, _, rfl, by omega, by go_num, B3.out, X3.out, O3.out⟩, by simp [intOf]; omega⟩
      · have hkn : k = n3 := by omega
        obtain ⟨NL, hNL⟩ : ∃ NL, nodeF D = NL := ⟨_, rfl⟩
        obtain ⟨m, hm⟩ : ∃ m, NL.length = m := ⟨_, rfl⟩
        have LS : Hid (nodeF D = NL ∧ NL.length = m ∧ m ≤ 10 ∧ ∀ y ∈ NL, y.size ≤ 300) := ⟨hNL, hm, by rw [← hm, ← hNL]; exact NF.out.1, by rw [← hNL]; exact NF.out.2⟩
        have FO : Hid (wr.ownsRow (w.heap.size + 1) 9 1 u m (cellsS NL)) := by
          have h9 := ho.out
          have e9 : (nodeF D).length = n1 * 2 + n3 := by unfold nodeF; rw [List.length_append, pairF_length, kidsF_length, ND.out.1, ND.out.2.2]
          rw [hkn, List.take_of_length_le (by rw [kidsF_length, ND.out.2.2]; exact Nat.le_refl _)] at h9
          rw [← hm, ← hNL, e9]
          exact h9
        have XR : Hid (w.heap.size + 1 ≤ wr.heap.size) := World.block_lt_of_cell? _ _ (hx.out 0 _ rfl).1
        obtain ⟨la, lc, rfl, ls, _⟩ := own_src FO.out
        have S9 : Hid (Src wr la (cellsS NL)) := ls
        have BY : Hid (Below wr.heap.size wr (wr.alloc (.cells #[.int .u8 105] 5))) := (Below.refl _ _).alloc (Nat.le_refl _) _
        have W4 : Hid (World.ownsRow (wr.alloc (.cells #[.int .u8 105] 5)) wr.heap.size 5 1 (.slice (some ⟨wr.heap.size, 0, none⟩) 1 1) 1 (cellsB [105])) := own_new (Nat.le_refl _) rfl rfl (by omega) rfl
        clear hkn ho ls hNL hm
        go_wp2_with fail
        refine (l01Fields la m lc NL _ LS.out.2.1 (by have := LS.out.2.2.1; omega) LS.out.2.2.2 (S9.out.below BY.out)).mono ?_
        rintro e w3 ⟨v3, rfl, o3, hb3⟩
        obtain ⟨fa, fc, rfl, fs, _⟩ := own_src o3
        obtain ⟨F0, hF0⟩ : ∃ F0, fieldsB NL = F0 := ⟨_, rfl⟩
        obtain ⟨l, hl⟩ : ∃ l, F0.length = l := ⟨_, rfl⟩
        have HF0 : Hid (fieldsB NL = F0 ∧ F0.length = l ∧ l ≤ 3021 ∧ (∀ x ∈ F0, x < 256)) := ⟨hF0, hl, by rw [← hl, ← hF0]; have := fieldsB_le _ LS.out.2.2.2; have := LS.out.2.1; have := LS.out.2.2.1; omega, by rw [← hF0]; exact fieldsB_lt _⟩
        have BW3 : Hid (Below wr.heap.size wr w3) := BY.out.trans (hb3.mono BY.out.size)
        have Y3 : Hid (w3.ownsRow wr.heap.size 5 1 (.slice (some ⟨wr.heap.size, 0, none⟩) 1 1) 1 (cellsB [105])) := own_below W4.out hb3
        rw [hF0] at fs ⊢
        have FS : Hid (Src w3 fa (cellsB F0)) := fs
        rw [hl]
        clear hb3 o3 fs hF0 hl W4 BY
        have hl9 : l ≤ 3021 := HF0.out.2.2.1
        have SL : Hid (nodeL D = [105] ++ F0) := by show _ = _; unfold nodeL; rw [HKA.out, LS.out.1, HF0.out.1]; rfl
        have Z3 : Hid (wr.heap.size ≤ w3.heap.size) := BW3.out.size
        go_wp2_with (at_builtin; refine wpList_append_src _ rfl _ _ 22 rfl wr.heap.size 5 (.int .u8 0) 1 1 Tryd.underlying22 infoB rfl (by decide) (by decide) _ 1 (cellsB [105]) rfl Y3.out fa l fc (cellsB F0) rfl (by rw [cellsB_length, HF0.out.2.1]; omega) FS.out (cellsB_one _) (by omega) Z3.out ?_)
        intro v4 w4 hown4 hgrow4
        have O4 : Hid (w4.ownsRow wr.heap.size 5 1 v4 (1 + l) (cellsB (nodeL D))) := by rw [SL.out, cellsB_append]; exact hown4
        have BW4 : Hid (Below wr.heap.size wr w4) := BW3.out.grown hgrow4 BW3.out.size (fun g e => by have e2 : some wr.heap.size = some g := e; injection e2 with e3; omega)
        have S4 : Hid ((nodeL D).length = 1 + l ∧ ∀ x ∈ nodeL D, x < 256) := by
          refine ⟨by rw [SL.out, List.length_append, HF0.out.2.1]; rfl, fun x hx => ?_⟩
          rw [SL.out, List.mem_append] at hx
          rcases hx with hx | hx
          · simp at hx; omega
          · exact HF0.out.2.2.2 x hx
        clear hown4 hgrow4 FS Y3
        go_wp2_with fail
        refine (l03Sealed v4 (1 + l) wr.heap.size (nodeL D) _ S4.out.1 (by omega) S4.out.2 BW4.out.size O4.out).mono ?_
        rintro e w5 ⟨v5, rfl, o5, hb5⟩
        have B5 : Hid (Below w.heap.size w w5) := hb.out.trans ((BW4.out.trans hb5).mono hb.out.size)
        have O5 : Hid (w5.ownsRow w.heap.size 5 1 v5 (sealB (nodeL D)).length (cellsB (sealB (nodeL D))) ∧ (sealB (nodeL D)).length ≤ 1048576) := by
          have e5 : (sealB (nodeL D)).length = 1 + l + 4 := by unfold sealB; rw [List.length_append, S4.out.1]; rfl
          rw [e5]
          exact ⟨own_mono o5 hb.out.size, by omega⟩
        clear hb5 o5
        go_wp2_with fail
        go_ret
        exact ⟨_, rfl, O5.out.1, O5.out.2, B5.out⟩

set_option maxHeartbeats 1000000 in
theorem specNodeBytes (v : Value) (D : NM) (w : World) (hs : smallN D) (h : ReadsN w v D) :
    Calls Tryd.prog 13 #[v] w fun e w' => ∃ u R q, e = .returned (.tuple #[u, .int .i64 q]) ∧ nodeB D = (R, q) ∧ w'.ownsRow w.heap.size 5 1 u R.length (cellsB R) ∧ R.length ≤ 1048576 ∧ Below w.heap.size w w' := by
  have HR : Hid (ReadsN w v D) := h
  have HS : Hid (smallN D) := hs
  obtain ⟨a1, c1, a2, c2, a3, c3, rfl, s1, s2, s3⟩ := h
  obtain ⟨ok, hok⟩ : ∃ b, okB D = b := ⟨_, rfl⟩
  obtain ⟨fr, hfr⟩ : ∃ b, freeB D = b := ⟨_, rfl⟩
  have HOK : Hid (okB D = ok) := hok
  have HFR : Hid (freeB D = fr) := hfr
  clear hs s1 s2 s3 hok hfr
  go_enter Tryd.func13, Tryd.ntmps13
  go_wp2_with fail
  refine (specNodeOK _ D _ HS.out (HR.out.below ((Below.refl _ _).alloc (Nat.le_refl _) _))).mono ?_
  rw [HOK.out]
  rintro e w1 ⟨rfl, hb1⟩
  have B1 : Hid (Below w.heap.size w w1) := Below.new hb1
  have X1 : Hid (Box w1 w.heap.size [.bool D.A, .slice a1 D.P.length c1, .slice a2 D.L.length c2, .slice a3 D.K.length c3]) := Box.below (Box.new rfl) hb1
  clear hb1
  cases ok with
  | false =>
    have F : Hid (nodeB D = ([], 1)) := by show _ = _; unfold nodeB; rw [HOK.out]; rfl
    go_wp2_with fail
    go_ret2
    exact ⟨_, _, _, rfl, F.out, own_empty (by simp) B1.out.size, by simp, B1.out.alloc B1.out.size _⟩
  | true =>
    obtain ⟨p0, _⟩ := X1.out 0 _ rfl
    obtain ⟨p1, _⟩ := X1.out 1 _ rfl
    obtain ⟨p2, _⟩ := X1.out 2 _ rfl
    obtain ⟨p3, _⟩ := X1.out 3 _ rfl
    go_wp2_with fail
    refine (l03Free _ D _ (HR.out.below B1.out)).mono ?_
    rw [HFR.out]
    rintro e w2 ⟨rfl, hb2⟩
    have B2 : Hid (Below w.heap.size w w2) := B1.out.trans (hb2.mono B1.out.size)
    have X2 : Hid (Box w2 w.heap.size [.bool D.A, .slice a1 D.P.length c1, .slice a2 D.L.length c2, .slice a3 D.K.length c3]) := X1.out.below hb2
    clear hb2 p0 p1 p2 p3
    cases fr with
    | true =>
      have F : Hid (nodeB D = ([], 5)) := by show _ = _; unfold nodeB; rw [HOK.out, HFR.out]; rfl
      go_wp2_with fail
      go_ret2
      exact ⟨_, _, _, rfl, F.out, own_empty (by simp) B2.out.size, by simp, B2.out.alloc B2.out.size _⟩
    | false =>
      have F : Hid (nodeB D = (sealB (nodeL D), 0)) := by show _ = _; unfold nodeB; rw [HOK.out, HFR.out]; rfl
      obtain ⟨p0, _⟩ := X2.out 0 _ rfl
      obtain ⟨p1, _⟩ := X2.out 1 _ rfl
      obtain ⟨p2, _⟩ := X2.out 2 _ rfl
      obtain ⟨p3, _⟩ := X2.out 3 _ rfl
      go_wp2_with fail
      refine (l03Bytes _ D _ HOK.out HFR.out (HR.out.below B2.out)).mono ?_
      rintro e w3 ⟨u, rfl, o3, hl3, hb3⟩
      have B3 : Hid (Below w.heap.size w w3) := B2.out.trans (hb3.mono B2.out.size)
      have O3 : Hid (w3.ownsRow w.heap.size 5 1 u (sealB (nodeL D)).length (cellsB (sealB (nodeL D))) ∧ (sealB (nodeL D)).length ≤ 1048576) := ⟨own_mono o3 B2.out.size, hl3⟩
      clear o3 hl3 hb3
      go_wp2_with fail
      go_ret2
      exact ⟨_, _, _, rfl, F.out, O3.out.1, O3.out.2, B3.out⟩
end Go.Proofs.YtnejklppbjkekaaDoor
