
/-
  The bytes of a node, by the program. By an AI agent.
-/
import Derived.Test.YtnejklppbjkekaaDoorSub
import Derived.Test.YtnejklppbjkekaaDoorNoki
namespace Go.Proofs.YtnejklppbjkekaaDoor
open Go.ChangeShapes Go.WideShapes Go.ChangeAt Go.RowKit Go.Deep
set_option linter.unusedVariables false
set_option maxRecDepth 100000

def kidF (q : Int) (s : ByteArray) : ByteArray := strB [q.toNat % 256] ++ s
def pairF (P : List PM) : List ByteArray := P.flatMap fun p => [p.1, p.2]
def kidsF (K : List Int) (L : List ByteArray) : List ByteArray := (List.range K.length).map fun i => kidF (K.getD i 0) (L.getD i e0)
def nodeF (D : NM) : List ByteArray := pairF D.P ++ kidsF D.K D.L
def kindB (D : NM) : Nat := if D.A then 108 else 105
def nodeL (D : NM) : List Nat := kindB D :: fieldsB (nodeF D)
def nodeB (D : NM) : List Nat × Int := if okB D then (if freeB D then ([], 5) else (sealB (nodeL D), 0)) else ([], 1)
theorem kidF_size (q : Int) (s : ByteArray) : (kidF q s).size = 1 + s.size := by
  unfold kidF; rw [ByteArray.size_append, strB_size]; rfl
theorem pairF_length (P : List PM) : (pairF P).length = P.length * 2 := by
  unfold pairF
  induction P with
  | nil => rfl
  | cons p P ih => rw [List.flatMap_cons, List.length_append, ih]; simp; omega
theorem kidsF_length (K : List Int) (L : List ByteArray) : (kidsF K L).length = K.length := by simp [kidsF]
theorem pairF_take {P : List PM} {i : Nat} (h : i < P.length) : pairF (P.take (i + 1)) = pairF (P.take i) ++ [(P.getD i p0).1, (P.getD i p0).2] := by
  unfold pairF
  rw [List.take_succ_eq_append_getElem h, List.flatMap_append, List.getD_eq_getElem?_getD, List.getElem?_eq_getElem h]
  rfl
theorem kidsF_take {K : List Int} {L : List ByteArray} {i : Nat} (h : i < K.length) : (kidsF K L).take (i + 1) = (kidsF K L).take i ++ [kidF (K.getD i 0) (L.getD i e0)] := by
  rw [List.take_succ_eq_append_getElem (by rw [kidsF_length]; exact h)]
  unfold kidsF
  rw [List.getElem_map, List.getElem_range]
theorem pairs_fit {P : List PM} (h : pairsB (fK P) (fV P) P.length = true) {i : Nat} (hi : i < P.length) : (fK P i).size ≤ 30 ∧ (fV P i).size ≤ 90 := by
  unfold pairsB at h
  simp only [Bool.and_eq_true, decide_eq_true_eq] at h
  have h1 := List.all_eq_true.1 h.2 i (List.mem_range.2 hi)
  unfold goodB fitB keyB at h1
  simp only [Bool.and_eq_true, decide_eq_true_eq] at h1
  omega
/-- What a right node that is not free has. -/
theorem okB_facts {D : NM} (h : okB D = true) (hf : freeB D = false) : D.P.length ≤ 3 ∧ D.K.length ≤ 4 ∧ D.L.length = D.K.length ∧ (D.A = false → D.P.length = 0) ∧ (D.A = true → D.K.length = 0) ∧ (∀ x ∈ D.P, x.1.size ≤ 30 ∧ x.2.size ≤ 90) ∧ (∀ i, i < D.K.length → 0 ≤ D.K.getD i 0 ∧ D.K.getD i 0 < 50 ∧ (D.L.getD i e0).size ≤ 30) := by
  unfold okB at h
  rw [hf, Bool.false_or, Bool.or_eq_true] at h
  rcases h with h | h
  · unfold leafB at h
    simp only [Bool.and_eq_true, decide_eq_true_eq] at h
    obtain ⟨⟨h1, h2, h3, h4, h5⟩, h6⟩ := h
    refine ⟨h5, by omega, by omega, fun e => (by rw [h1] at e; cases e), fun _ => h3, fun x hx => ?_, fun i hi => (by omega)⟩
    obtain ⟨i, hi, rfl⟩ := List.getElem_of_mem hx
    have h7 := pairs_fit h6 hi
    simp [fK, fV, List.getElem?_eq_getElem hi] at h7
    exact h7
  · unfold innerB at h
    simp only [Bool.and_eq_true, decide_eq_true_eq] at h
    obtain ⟨⟨h1, h2, h3, h4, h5⟩, h6⟩ := h
    refine ⟨by omega, h5, h3, fun _ => h2, fun e => (by rw [h1] at e; cases e), fun x hx => ?_, fun i hi => ?_⟩
    · rw [List.eq_nil_of_length_eq_zero h2] at hx; cases hx
    · unfold kidsB at h6
      rw [List.all_eq_true] at h6
      have h7 := h6 i (List.mem_range.2 hi)
      unfold kidB pageB keyB at h7
      simp only [Bool.and_eq_true, decide_eq_true_eq] at h7
      omega
theorem nodeF_all {D : NM} (h : okB D = true) (hf : freeB D = false) : (nodeF D).length ≤ 10 ∧ ∀ y ∈ nodeF D, y.size ≤ 300 := by
  obtain ⟨f1, f2, f3, f4, f5, f6, f7⟩ := okB_facts h hf
  refine ⟨by unfold nodeF; rw [List.length_append, pairF_length, kidsF_length]; omega, fun y hy => ?_⟩
  unfold nodeF at hy
  rw [List.mem_append] at hy
  rcases hy with hy | hy
  · unfold pairF at hy
    rw [List.mem_flatMap] at hy
    obtain ⟨p, hp, hy⟩ := hy
    have h1 := f6 p hp
    simp at hy
    rcases hy with rfl | rfl
    · omega
    · omega
  · unfold kidsF at hy
    rw [List.mem_map] at hy
    obtain ⟨i, hi, rfl⟩ := hy
    have h1 := f7 i (List.mem_range.1 hi)
    rw [kidF_size]
    omega
theorem src_twoS {w : World} {s t : ByteArray} {B ty : Nat} (hB : B = w.heap.size) : Src (w.alloc (.cells #[.string s, .string t] ty)) (some ⟨B, 0, none⟩) (cellsS [s, t]) := by
  have hb : Box (w.alloc (.cells #[.string s, .string t] ty)) B [.string s, .string t] := Box.new hB
  refine .inr ⟨B, 0, rfl, fun j hj => ?_⟩
  have hj4 : j < 2 := hj
  rw [Nat.zero_add]
  match j, hj4 with
  | 0, _ => exact (hb 0 _ rfl).1
  | 1, _ => exact (hb 1 _ rfl).1

set_option maxHeartbeats 2000000 in
theorem nodeFields (v : Value) (D : NM) (w : World) (hok : okB D = true) (hfr : freeB D = false) (h : ReadsN w v D) :
    Calls Tryd.prog 55 #[v] w fun e w' => ∃ u, e = .returned u ∧ w'.ownsRow w.heap.size 9 1 u (nodeF D).length (cellsS (nodeF D)) ∧ Below w.heap.size w w' := by
  obtain ⟨a1, c1, a2, c2, a3, c3, rfl, s1, s2, s3⟩ := h
  have S1 : Hid (Src w a1 (cellsP D.P)) := s1
  have S2 : Hid (Src w a2 (cellsS D.L)) := s2
  have S3 : Hid (Src w a3 (cellsI D.K)) := s3
  obtain ⟨n1, hn1⟩ : ∃ n, D.P.length = n := ⟨_, rfl⟩
  obtain ⟨n2, hn2⟩ : ∃ n, D.L.length = n := ⟨_, rfl⟩
  obtain ⟨n3, hn3⟩ : ∃ n, D.K.length = n := ⟨_, rfl⟩
  obtain ⟨A, hA⟩ : ∃ A, D.A = A := ⟨_, rfl⟩
  have ND : Hid (D.P.length = n1 ∧ D.L.length = n2 ∧ D.K.length = n3) := ⟨hn1, hn2, hn3⟩
  have FA : Hid (n1 ≤ 3 ∧ n3 ≤ 4 ∧ n2 = n3 ∧ (∀ x ∈ D.P, x.1.size ≤ 30 ∧ x.2.size ≤ 90) ∧ (∀ i, i < n3 → 0 ≤ D.K.getD i 0 ∧ D.K.getD i 0 < 50 ∧ (D.L.getD i e0).size ≤ 30)) := by
    obtain ⟨f1, f2, f3, f4, f5, f6, f7⟩ := okB_facts hok hfr
    rw [hn1] at f1
    rw [hn3] at f2 f3 f7
    rw [hn2] at f3
    exact ⟨f1, f2, f3, f6, f7⟩
  rw [hn1, hn2, hn3, hA]
  clear hok hfr s1 s2 s3 hn1 hn2 hn3 hA
  go_enter Tryd.func55, Tryd.ntmps55
  go_wp2_with fail
  go_loopw [3, 11] (fun lv iv wr => ∃ (k : Nat) (u : Value), u = lv ∧ k ≤ n1 ∧ iv = .int .i64 k ∧ Hid (Below w.heap.size w wr) ∧ Hid (Box wr w.heap.size [.bool A, .slice a1 n1 c1, .slice a2 n2 c2, .slice a3 n3 c3]) ∧ Hid (wr.ownsRow (w.heap.size + 1) 9 1 u (k * 2) (cellsS (pairF (D.P.take k))))) (fun _ i _ => n1 - (intOf i).toNat)
  case atStart => exact ⟨0, _, rfl, by omega, rfl, (Below.refl _ _).alloc (Nat.le_refl _) _, Box.new rfl, World.ownsRow_nil _ _ _ _⟩
  case round =>
    obtain ⟨k, u, hu, hk, rfl, hb, hx, ho⟩ := hrel
    subst hu
    have hn13 : n1 ≤ 3 := FA.out.1
    by_cases hlt : k < n1
    · have hki : (k : Int) < (n1 : Int) := by omega
      obtain ⟨b, o, x, y, rfl, q1, q2, hy⟩ := srcP (S1.out.below hb.out) (i := k) (by rw [ND.out.1]; exact hlt)
      have NX : Hid (pairF (D.P.take (k + 1)) = pairF (D.P.take k) ++ [x, y]) := by show _ = _; rw [pairF_take (by rw [ND.out.1]; exact hlt), hy.out]
      have XR : Hid (w.heap.size + 1 ≤ wr.heap.size) := World.block_lt_of_cell? _ _ (hx.out 0 _ rfl).1
      have hlt3 : Hid (∀ g, Value.ownBlock u = some g → w.heap.size + 1 ≤ g ∧ g < wr.heap.size) := fun g e => ho.out.lt g e
      go_wp2_with (at_builtin; refine wpList_append_src _ rfl _ _ 24 rfl (w.heap.size + 1) 9 (.string ⟨#[]⟩) 1 16 Tryd.underlying24 infoS rfl (by decide) (by decide) _ (k * 2) (cellsS (pairF (D.P.take k))) rfl ((ho.out.alloc _).alloc _) (some ⟨wr.heap.size + 1, 0, none⟩) 2 2 (cellsS [x, y]) rfl rfl (src_twoS (by simp)) (cellsS_one _) (by omega) (by have := XR.out; simp; omega) ?_)
      intro v2 w2 hown2 hgrow2
      have O2 : Hid (w2.ownsRow (w.heap.size + 1) 9 1 v2 ((k + 1) * 2) (cellsS (pairF (D.P.take (k + 1))))) := by rw [NX.out, cellsS_append, show (k + 1) * 2 = k * 2 + 2 from by omega]; exact hown2
      have BB : Below wr.heap.size wr ((wr.alloc (.cells #[.string x, .string y] 130)).alloc (.cells #[.string x, .string y] 9)) := ((Below.refl _ _).alloc (Nat.le_refl _) _).alloc (by simp) _
      have B2 : Hid (Below w.heap.size w w2) := (hb.out.trans (BB.mono hb.out.size)).grown hgrow2 (by have := XR.out; simp; omega) (fun g e => by have := (hlt3.out g e).1; omega)
      have X2 : Hid (Box w2 w.heap.size [.bool A, .slice (some ⟨b, o, none⟩) n1 c1, .slice a2 n2 c2, .slice a3 n3 c3]) := Box.grown (hx.out.below BB) hgrow2 (fun e => by have := (hlt3.out _ e).1; omega)
      clear hown2 hgrow2
      go_wp2_with fail
      exact ⟨⟨k + 1, _, rfl, by omega, by go_num, B2.out, X2.out, O2.out⟩, by simp [intOf]; omega⟩
    · have hkn : k = n1 := by omega
      have FO : Hid (wr.ownsRow (w.heap.size + 1) 9 1 u (n1 * 2) (cellsS (pairF D.P ++ (kidsF D.K D.L).take 0))) := by
        have h9 := ho.out
        rw [hkn, List.take_of_length_le (by rw [ND.out.1]; exact Nat.le_refl _)] at h9
        show wr.ownsRow _ _ _ _ _ (cellsS (pairF D.P ++ (kidsF D.K D.L).take 0))
        simpa using h9
      clear hkn ho
      obtain ⟨p3, _⟩ := hx.out 3 _ rfl
      go_wp2_with fail
      go_loopw [3, 26] (fun lv iv wr => ∃ (k : Nat) (u : Value), u = lv ∧ k ≤ n3 ∧ iv = .int .i64 k ∧ Hid (Below w.heap.size w wr) ∧ Hid (Box wr w.heap.size [.bool A, .slice a1 n1 c1, .slice a2 n2 c2, .slice a3 n3 c3]) ∧ Hid (wr.ownsRow (w.heap.size + 1) 9 1 u (n1 * 2 + k) (cellsS (pairF D.P ++ (kidsF D.K D.L).take k)))) (fun _ i _ => n3 - (intOf i).toNat)
      case atStart => exact ⟨0, _, rfl, by omega, rfl, hb.out, hx.out, FO.out⟩
      case round =>
        clear FO hb hx p3
        obtain ⟨k, u, hu, hk, rfl, hb, hx, ho⟩ := hrel
        subst hu
        have f1 : n1 ≤ 3 := FA.out.1
        have f2 : n3 ≤ 4 := FA.out.2.1
        have f3 : n2 ≤ n3 ∧ n3 ≤ n2 := ⟨Nat.le_of_eq FA.out.2.2.1, Nat.le_of_eq FA.out.2.2.1.symm⟩
        by_cases hlt : k < n3
        · have hki : (k : Int) < (n3 : Int) := by omega
          have hki2 : (k : Int) < (n2 : Int) := by omega
          have hk0 : (0 : Int) ≤ (k : Int) := by omega
          obtain ⟨kb, ko, q, rfl, qc, hq⟩ := srcI (S3.out.below hb.out) (i := k) (by rw [ND.out.2.2]; exact hlt)
          obtain ⟨lb, lo, y, rfl, yc, hy⟩ := srcS (S2.out.below hb.out) (i := k) (by rw [ND.out.2.1]; omega)
          have EC : Hid (∀ w9, Below w.heap.size w w9 → w9.cell? ⟨lb, lo + k, none⟩ = some (.string y)) := fun w9 hb9 => by
            obtain ⟨lb', lo', y', e', yc', hy'⟩ := srcS (S2.out.below hb9) (i := k) (by rw [ND.out.2.1]; omega)
            cases e'
            rw [yc', ← hy'.out, hy.out]
          have FK : 0 ≤ q ∧ q < 50 ∧ y.size ≤ 30 := by
            have h9 := FA.out.2.2.2.2 k hlt
            rw [hq.out, hy.out] at h9
            exact h9
          obtain ⟨f6, f7, f8⟩ := FK
          have hw3 : IntKind.u8.wrap q = q := by rw [IntKind.wrap_u8]; omega
          obtain ⟨ss, hss⟩ : ∃ ss, strB [q.toNat % 256] = ss := ⟨_, rfl⟩
          have hs1 : ss.size = 1 := by rw [← hss, strB_size]; rfl
          have hcat : ¬ 9223372036854775807 < 1 + y.size := by omega
          have HSS : Hid ((convert 22 9 (.slice (some ⟨wr.heap.size, 0, none⟩) 1 1)).run Tryd.prog (wr.alloc (.cells #[.int .u8 q] 5)).drew = .ok (.string ss) (wr.alloc (.cells #[.int .u8 q] 5)).drew) := by
            show _ = _
            rw [← hss]
            exact conv_sub (w := (wr.alloc (.cells #[.int .u8 q] 5)).drew) (c := 1) (B := [q.toNat % 256]) (src_oneB (w := wr) (t := 5) rfl (by omega)) (s := 1) (Nat.le_refl _)
          have NX : Hid (pairF D.P ++ (kidsF D.K D.L).take (k + 1) = pairF D.P ++ (kidsF D.K D.L).take k ++ [ss ++ y]) := by
            show _ = _
            rw [kidsF_take (by rw [ND.out.2.2]; exact hlt), hq.out, hy.out, ← hss, List.append_assoc]
            rfl
          clear hss
          have XR : Hid (w.heap.size + 1 ≤ wr.heap.size) := World.block_lt_of_cell? _ _ (hx.out 0 _ rfl).1
          have hlt3 : Hid (∀ g, Value.ownBlock u = some g → w.heap.size + 1 ≤ g ∧ g < wr.heap.size) := fun g e => ho.out.lt g e
          obtain ⟨e0, _⟩ := hx.out 2 _ rfl
          have e1 := EC.out _ hb.out
          go_wp2_with fail
          refine wp_region_noPanic ?_
          refine wp_region_held_drew (S := (fun w' => w'.cell? ⟨w.heap.size, 2, none⟩ = some (.slice (some ⟨lb, lo, none⟩) n2 c2) ∧ w'.cell? ⟨lb, lo + k, none⟩ = some (.string y))) (by kernel_rfl) ⟨e0, e1⟩ (fun hHeld => ?_)
          refine wpAnyH_take (i := 0) (v := u) rfl (by kernel_rfl) (by kernel_rfl) (by kernel_rfl) (fun _ _ _ h => h) (Or.inl ⟨by rfl, ?_⟩) hHeld ?_
          · intro w9 hSw
            obtain ⟨s0, s1⟩ := hSw
            go_simp
          refine wpAnyH_take (i := 1) (v := .int .i64 q) rfl (by kernel_rfl) (by kernel_rfl) (by kernel_rfl) (fun _ _ _ h => h) (Or.inl ⟨by rfl, ?_⟩) hHeld ?_
          · intro w9 hSw
            obtain ⟨s0, s1⟩ := hSw
            go_simp
          refine wpAnyH_take (i := 2) (v := .int .u8 q) rfl (by kernel_rfl) (by kernel_rfl) (by kernel_rfl) (fun _ _ _ h => h) (Or.inl ⟨by rfl, ?_⟩) hHeld ?_
          · intro w9 hSw
            obtain ⟨s0, s1⟩ := hSw
            go_simp
          refine wpAnyH_take (i := 5) (v := .pointer (some ⟨w.heap.size, 2, none⟩)) rfl (by kernel_rfl) (by kernel_rfl) (by kernel_rfl) (fun _ _ _ h => h) (Or.inl ⟨by rfl, ?_⟩) hHeld ?_
          · intro w9 hSw
            obtain ⟨s0, s1⟩ := hSw
            go_simp
          refine wpAnyH_take (i := 6) (v := .slice (some ⟨lb, lo, none⟩) n2 c2) rfl (by kernel_rfl) (by kernel_rfl) (by kernel_rfl) (fun _ _ _ h => h) (Or.inl ⟨by rfl, ?_⟩) hHeld ?_
          · intro w9 hSw
            obtain ⟨s0, s1⟩ := hSw
            go_simp
          refine wpAnyH_take (i := 7) (v := .int .i64 (k : Int)) rfl (by kernel_rfl) (by kernel_rfl) (by kernel_rfl) (fun _ _ _ h => h) (Or.inl ⟨by rfl, ?_⟩) hHeld ?_
          · intro w9 hSw
            obtain ⟨s0, s1⟩ := hSw
            go_simp
          refine wpAnyH_take (i := 8) (v := .pointer (some ⟨lb, lo + k, none⟩)) rfl (by kernel_rfl) (by kernel_rfl) (by kernel_rfl) (fun _ _ _ h => h) (Or.inl ⟨by rfl, ?_⟩) hHeld ?_
          · intro w9 hSw
            obtain ⟨s0, s1⟩ := hSw
            go_simp
          refine wpAnyH_take (i := 9) (v := .string y) rfl (by kernel_rfl) (by kernel_rfl) (by kernel_rfl) (fun _ _ _ h => h) (Or.inl ⟨by rfl, ?_⟩) hHeld ?_
          · intro w9 hSw
            obtain ⟨s0, s1⟩ := hSw
            go_simp
          have BA : Hid (Below wr.heap.size wr (wr.alloc (.cells #[.int .u8 q] 5)).drew) := ((Below.refl _ _).alloc (Nat.le_refl _) _).drew
          have BB : Hid (Below wr.heap.size wr ((wr.alloc (.cells #[.int .u8 q] 5)).drew.alloc (.cells #[.string (ss ++ y)] 9))) := BA.out.alloc BA.out.size _
          have XA : Hid (Box (wr.alloc (.cells #[.int .u8 q] 5)).drew w.heap.size [.bool A, .slice a1 n1 c1, .slice (some ⟨lb, lo, none⟩) n2 c2, .slice (some ⟨kb, ko, none⟩) n3 c3]) := hx.out.below BA.out
          have XB : Hid (Box ((wr.alloc (.cells #[.int .u8 q] 5)).drew.alloc (.cells #[.string (ss ++ y)] 9)) w.heap.size [.bool A, .slice a1 n1 c1, .slice (some ⟨lb, lo, none⟩) n2 c2, .slice (some ⟨kb, ko, none⟩) n3 c3]) := hx.out.below BB.out
          refine wpAnyH_ready (rs := [3]) (by kernel_rfl) (by simp) ?_
          refine AllReadyH.cons rfl (fun K hK => ?_) AllReadyH.nil
          go_simp
          clear e0 e1
          obtain ⟨e0, _⟩ := XA.out 2 _ rfl
          have e1 := EC.out _ (hb.out.trans (BA.out.mono hb.out.size))
          refine hK.out _ _ ⟨e0, e1⟩ (fun hHeld => ?_)
          clear hK K
          have hcv := HSS.out
          refine wpAnyH_ready (rs := [4]) (by kernel_rfl) (by simp) ?_
          refine AllReadyH.cons rfl (fun K hK => ?_) AllReadyH.nil
          go_simp
          refine hK.out _ _ ⟨e0, e1⟩ (fun hHeld => ?_)
          clear hK K
          clear hcv
          refine wpAnyH_ready (rs := [10]) (by kernel_rfl) (by simp) ?_
          refine AllReadyH.cons rfl (fun K hK => ?_) AllReadyH.nil
          go_simp
          refine hK.out _ _ ⟨e0, e1⟩ (fun hHeld => ?_)
          clear hK K
          refine wpAnyH_ready (rs := [11]) (by kernel_rfl) (by simp) ?_
          refine AllReadyH.cons rfl (fun K hK => ?_) AllReadyH.nil
          go_simp
          clear e0 e1
          obtain ⟨e0, _⟩ := XB.out 2 _ rfl
          have e1 := EC.out _ (hb.out.trans (BB.out.mono hb.out.size))
          refine hK.out _ _ ⟨e0, e1⟩ (fun hHeld => ?_)
          clear hK K
          refine wpAnyH_ready (rs := [12]) (by kernel_rfl) (by simp) ?_
          refine AllReadyH.cons rfl (fun K hK => ?_) AllReadyH.nil
          refine step_append_src rfl (.tmp 31) (.tmp 42) 24 rfl (w.heap.size + 1) 9 (.string ⟨#[]⟩) 1 16 Tryd.underlying24 infoS rfl (by decide) (by decide) u (n1 * 2 + k) (cellsS (pairF D.P ++ (kidsF D.K D.L).take k)) (by simp [Act.eval]) (own_below ho.out BB.out) ⟨wr.heap.size + 1, 0, none⟩ 1 1 (cellsS [ss ++ y]) (by simp [Act.eval]) rfl (src_oneS (w := (wr.alloc (.cells #[.int .u8 q] 5)).drew) (by simp)) (cellsS_one _) (by omega) (by omega) (Nat.le_trans XR.out BB.out.size) ?_
          intro v3 w3 hown3 hgrow3 _
          have O3 : Hid (w3.ownsRow (w.heap.size + 1) 9 1 v3 (n1 * 2 + (k + 1)) (cellsS (pairF D.P ++ (kidsF D.K D.L).take (k + 1)))) := (by rw [NX.out, cellsS_append]; exact hown3)
          have B3 : Hid (Below w.heap.size w w3) := (hb.out.trans (BB.out.mono hb.out.size)).grown hgrow3 (Nat.le_trans hb.out.size BB.out.size) (fun g e => by have h9 := (hlt3.out g e).1; omega)
          have X3 : Hid (Box w3 w.heap.size [.bool A, .slice a1 n1 c1, .slice (some ⟨lb, lo, none⟩) n2 c2, .slice (some ⟨kb, ko, none⟩) n3 c3]) := Box.grown XB.out hgrow3 (fun e => by have h9 := (hlt3.out _ e).1; omega)
          clear hown3 hgrow3 e0 e1
          obtain ⟨e0, _⟩ := X3.out 2 _ rfl
          have e1 := EC.out _ B3.out
          refine hK.out _ _ ⟨e0, e1⟩ (fun hHeld => ?_)
          clear hK K
          refine wpAnyH_ready (rs := [13]) (by kernel_rfl) (by simp) ?_
          refine AllReadyH.cons rfl (fun K hK => ?_) AllReadyH.nil
          go_simp
          refine hK.out _ _ ⟨e0, e1⟩ (fun hHeld => ?_)
          clear hK K
          refine wpAnyH_done (by kernel_rfl) ?_ _
          refine NoPanic.normal ?_
          go_wp2_with fail
          exact ⟨⟨k + 1, _, rfl, by omega, by go_num, B3.out, X3.out, O3.out⟩, by simp [intOf]; omega⟩
        · have hkn : k = n3 := by omega
          have FO : Hid (wr.ownsRow w.heap.size 9 1 u (nodeF D).length (cellsS (nodeF D))) := by
            have h9 := ho.out
            have e9 : (nodeF D).length = n1 * 2 + n3 := by unfold nodeF; rw [List.length_append, pairF_length, kidsF_length, ND.out.1, ND.out.2.2]
            rw [hkn, List.take_of_length_le (by rw [kidsF_length, ND.out.2.2]; exact Nat.le_refl _)] at h9
            rw [e9]
            exact own_mono h9 (by omega)
          clear hkn ho
          go_wp2_with fail
          go_ret
          exact ⟨_, rfl, FO.out, hb.out⟩

set_option maxHeartbeats 2000000 in
theorem implNodeBytes (v : Value) (D : NM) (w : World) (hs : smallN D) (h : ReadsN w v D) (hH : HasHalf w) :
    Calls Tryd.prog 12 #[v] w fun e w' => ∃ u R q, e = .returned (.tuple #[u, .int .i64 q]) ∧ nodeB D = (R, q) ∧ w'.ownsRow w.heap.size 5 1 u R.length (cellsB R) ∧ R.length ≤ 1048576 ∧ Below w.heap.size w w' := by
  have HR : Hid (ReadsN w v D) := h
  have HS : Hid (smallN D) := hs
  have HH : Hid (HasHalf w) := hH
  obtain ⟨a1, c1, a2, c2, a3, c3, rfl, s1, s2, s3⟩ := h
  obtain ⟨n1, hn1⟩ : ∃ n, D.P.length = n := ⟨_, rfl⟩
  obtain ⟨n2, hn2⟩ : ∃ n, D.L.length = n := ⟨_, rfl⟩
  obtain ⟨n3, hn3⟩ : ∃ n, D.K.length = n := ⟨_, rfl⟩
  obtain ⟨A, hA⟩ : ∃ A, D.A = A := ⟨_, rfl⟩
  obtain ⟨ok, hok⟩ : ∃ b, okB D = b := ⟨_, rfl⟩
  obtain ⟨fr, hfr⟩ : ∃ b, freeB D = b := ⟨_, rfl⟩
  have HOK : Hid (okB D = ok) := hok
  have HFR : Hid (freeB D = fr) := hfr
  have HA : Hid (D.A = A) := hA
  rw [hn1, hn2, hn3, hA] at HR ⊢
  clear hs hH s1 s2 s3 hn1 hn2 hn3 hA hok hfr
  go_enter Tryd.func12, Tryd.ntmps12
  go_wp2_with fail
  refine (implNodeOK _ D _ HS.out (HR.out.below ((Below.refl _ _).alloc (Nat.le_refl _) _))).mono ?_
  rw [HOK.out]
  rintro e w1 ⟨rfl, hb1⟩
  have B1 : Hid (Below w.heap.size w w1) := Below.new hb1
  have X1 : Hid (Box w1 w.heap.size [.bool A, .slice a1 n1 c1, .slice a2 n2 c2, .slice a3 n3 c3]) := Box.below (Box.new rfl) hb1
  clear hb1
  cases ok with
  | false =>
    have F : Hid (nodeB D = ([], 1)) := by show _ = _; unfold nodeB; rw [HOK.out]; rfl
    go_wp2_with fail
    go_ret2
    exact ⟨_, _, _, rfl, F.out, World.ownsRow_nil _ _ _ _, by simp, B1.out⟩
  | true =>
    obtain ⟨p0, _⟩ := X1.out 0 _ rfl
    obtain ⟨p1, _⟩ := X1.out 1 _ rfl
    obtain ⟨p2, _⟩ := X1.out 2 _ rfl
    obtain ⟨p3, _⟩ := X1.out 3 _ rfl
    go_wp2_with fail
    refine (nodeFree _ D _ (HR.out.below B1.out)).mono ?_
    rw [HFR.out]
    rintro e w2 ⟨rfl, hb2⟩
    have B2 : Hid (Below w.heap.size w w2) := B1.out.trans (hb2.mono B1.out.size)
    have X2 : Hid (Box w2 w.heap.size [.bool A, .slice a1 n1 c1, .slice a2 n2 c2, .slice a3 n3 c3]) := X1.out.below hb2
    clear hb2 p0 p1 p2 p3
    cases fr with
    | true =>
      have F : Hid (nodeB D = ([], 5)) := by show _ = _; unfold nodeB; rw [HOK.out, HFR.out]; rfl
      go_wp2_with fail
      go_ret2
      exact ⟨_, _, _, rfl, F.out, World.ownsRow_nil _ _ _ _, by simp, B2.out⟩
    | false =>
      have F : Hid (nodeB D = (sealB (nodeL D), 0)) := by show _ = _; unfold nodeB; rw [HOK.out, HFR.out]; rfl
      obtain ⟨p0, _⟩ := X2.out 0 _ rfl
      obtain ⟨p1, _⟩ := X2.out 1 _ rfl
      obtain ⟨p2, _⟩ := X2.out 2 _ rfl
      obtain ⟨p3, _⟩ := X2.out 3 _ rfl
      obtain ⟨kk, hkk⟩ : ∃ kk, kindB D = kk := ⟨_, rfl⟩
      have HKK : Hid (kindB D = kk) := hkk
      have HKA : Hid (kk = if A then 108 else 105) := by show _ = _; rw [← hkk]; unfold kindB; rw [HA.out]
      clear hkk
      cases A with
      | true =>
        have hk9 : kk = 108 := by rw [HKA.out]; rfl
        subst hk9
        clear HKA
        go_wp2_with fail
        refine (nodeFields _ D _ HOK.out HFR.out (HR.out.below B2.out)).mono ?_
        rintro e w3 ⟨v3, rfl, o3, hb3⟩
        obtain ⟨NL, hNL⟩ : ∃ NL, nodeF D = NL := ⟨_, rfl⟩
        obtain ⟨m, hm⟩ : ∃ m, NL.length = m := ⟨_, rfl⟩
        have LS : Hid (nodeF D = NL ∧ NL.length = m ∧ m ≤ 10 ∧ ∀ y ∈ NL, y.size ≤ 300) := ⟨hNL, hm, by rw [← hm, ← hNL]; exact (nodeF_all HOK.out HFR.out).1, by rw [← hNL]; exact (nodeF_all HOK.out HFR.out).2⟩
        rw [hNL, hm] at o3
        obtain ⟨la, lc, rfl, ls, _⟩ := own_src o3
        have S3 : Hid (Src w3 la (cellsS NL)) := ls
        have B3 : Hid (Below w.heap.size w w3) := B2.out.trans (hb3.mono B2.out.size)
        clear hb3 o3 ls hNL hm p0 p1 p2 p3
        go_wp2_with fail
        refine (implFieldsBytes la m lc NL _ LS.out.2.1 (by have := LS.out.2.2.1; omega) (fun y hy => by have := LS.out.2.2.2 y hy; omega) S3.out).mono ?_
        rintro e w4 ⟨v4, R4, q4, rfl, he4, o4, hb4⟩
        rw [fds_good (by rw [LS.out.2.1]; have := LS.out.2.2.1; omega) LS.out.2.2.2, Prod.mk.injEq] at he4
        obtain ⟨rfl, rfl⟩ := he4
        obtain ⟨fa, fc, rfl, fs, _⟩ := own_src o4
        obtain ⟨F0, hF0⟩ : ∃ F0, fieldsB NL = F0 := ⟨_, rfl⟩
        obtain ⟨l, hl⟩ : ∃ l, F0.length = l := ⟨_, rfl⟩
        have HF0 : Hid (fieldsB NL = F0 ∧ F0.length = l ∧ l ≤ 3021 ∧ (∀ x ∈ F0, x < 256)) := ⟨hF0, hl, by rw [← hl, ← hF0]; have := fieldsB_le _ LS.out.2.2.2; have := LS.out.2.1; have := LS.out.2.2.1; omega, by rw [← hF0]; exact fieldsB_lt _⟩
        have B4 : Hid (Below w.heap.size w w4) := B3.out.trans (hb4.mono B3.out.size)
        rw [hF0] at fs ⊢
        have FS : Hid (Src w4 fa (cellsB F0)) := fs
        rw [hl]
        clear hb4 o4 fs hF0 hl
        have hl9 : l ≤ 3021 := HF0.out.2.2.1
        have Z4 : Hid (w.heap.size ≤ w4.heap.size) := B4.out.size
        have SL : Hid (nodeL D = [108] ++ F0) := by show _ = _; unfold nodeL; rw [HKK.out, LS.out.1, HF0.out.1]; rfl
        have W4 : Hid (World.ownsRow (w4.alloc (.cells #[.int .u8 108] 5)) w4.heap.size 5 1 (.slice (some ⟨w4.heap.size, 0, none⟩) 1 1) 1 (cellsB [108])) := own_new (Nat.le_refl _) rfl rfl (by omega) rfl
        go_wp2_with (at_builtin; refine wpList_append_src _ rfl _ _ 22 rfl w4.heap.size 5 (.int .u8 0) 1 1 Tryd.underlying22 infoB rfl (by decide) (by decide) _ 1 (cellsB [108]) rfl W4.out fa l fc (cellsB F0) rfl (by rw [cellsB_length, HF0.out.2.1]; omega) (FS.out.below ((Below.refl _ _).alloc (Nat.le_refl _) _)) (cellsB_one _) (by omega) (by simp) ?_)
        intro v5 w5 hown5 hgrow5
        have O5 : Hid (w5.ownsRow w4.heap.size 5 1 v5 (1 + l) (cellsB (nodeL D))) := by rw [SL.out, cellsB_append]; exact hown5
        have B5' : Below w4.heap.size w4 w5 := below_append hgrow5 (fun g e => by cases e; exact Nat.le_refl _)
        have B5 : Hid (Below w.heap.size w w5) := B4.out.trans (B5'.mono Z4.out)
        obtain ⟨g, cap, rfl, hcap, s5⟩ := own_some O5.out (by omega)
        have S5 : Hid (Src w5 (some ⟨g, 0, none⟩) (cellsB (nodeL D)) ∧ (nodeL D).length = 1 + l ∧ ∀ x ∈ nodeL D, x < 256) := by
          refine ⟨s5, by rw [SL.out, List.length_append, HF0.out.2.1]; rfl, fun x hx => ?_⟩
          rw [SL.out, List.mem_append] at hx
          rcases hx with hx | hx
          · simp at hx; omega
          · exact HF0.out.2.2.2 x hx
        have HH5 : Hid (HasHalf w5) := HH.out.below B5.out
        clear hown5 hgrow5 B5' s5 FS W4
        go_wp2_with fail
        refine (implSealed g 0 (1 + l) cap (nodeL D) _ S5.out.2.1 (by omega) hcap S5.out.2.2 S5.out.1 HH5.out).mono ?_
        rintro e w6 ⟨v6, rfl, o6, hb6⟩
        have B6 : Hid (Below w.heap.size w w6) := B5.out.trans (hb6.mono B5.out.size)
        have O6 : Hid (w6.ownsRow w.heap.size 5 1 v6 (sealB (nodeL D)).length (cellsB (sealB (nodeL D))) ∧ (sealB (nodeL D)).length ≤ 1048576) := by
          have e6 : (sealB (nodeL D)).length = 1 + l + 4 := by unfold sealB; rw [List.length_append, S5.out.2.1]; rfl
          rw [e6]
          exact ⟨own_mono o6 B5.out.size, by omega⟩
        clear hb6 o6
        go_wp2_with fail
        go_ret2
        exact ⟨_, _, _, rfl, F.out, O6.out.1, O6.out.2, B6.out⟩
      | false =>
        have hk9 : kk = 105 := by rw [HKA.out]; rfl
        subst hk9
        clear HKA
        go_wp2_with fail
        refine (nodeFields _ D _ HOK.out HFR.out (HR.out.below B2.out)).mono ?_
        rintro e w3 ⟨v3, rfl, o3, hb3⟩
        obtain ⟨NL, hNL⟩ : ∃ NL, nodeF D = NL := ⟨_, rfl⟩
        obtain ⟨m, hm⟩ : ∃ m, NL.length = m := ⟨_, rfl⟩
        have LS : Hid (nodeF D = NL ∧ NL.length = m ∧ m ≤ 10 ∧ ∀ y ∈ NL, y.size ≤ 300) := ⟨hNL, hm, by rw [← hm, ← hNL]; exact (nodeF_all HOK.out HFR.out).1, by rw [← hNL]; exact (nodeF_all HOK.out HFR.out).2⟩
        rw [hNL, hm] at o3
        obtain ⟨la, lc, rfl, ls, _⟩ := own_src o3
        have S3 : Hid (Src w3 la (cellsS NL)) := ls
        have B3 : Hid (Below w.heap.size w w3) := B2.out.trans (hb3.mono B2.out.size)
        clear hb3 o3 ls hNL hm p0 p1 p2 p3
        go_wp2_with fail
        refine (implFieldsBytes la m lc NL _ LS.out.2.1 (by have := LS.out.2.2.1; omega) (fun y hy => by have := LS.out.2.2.2 y hy; omega) S3.out).mono ?_
        rintro e w4 ⟨v4, R4, q4, rfl, he4, o4, hb4⟩
        rw [fds_good (by rw [LS.out.2.1]; have := LS.out.2.2.1; omega) LS.out.2.2.2, Prod.mk.injEq] at he4
        obtain ⟨rfl, rfl⟩ := he4
        obtain ⟨fa, fc, rfl, fs, _⟩ := own_src o4
        obtain ⟨F0, hF0⟩ : ∃ F0, fieldsB NL = F0 := ⟨_, rfl⟩
        obtain ⟨l, hl⟩ : ∃ l, F0.length = l := ⟨_, rfl⟩
        have HF0 : Hid (fieldsB NL = F0 ∧ F0.length = l ∧ l ≤ 3021 ∧ (∀ x ∈ F0, x < 256)) := ⟨hF0, hl, by rw [← hl, ← hF0]; have := fieldsB_le _ LS.out.2.2.2; have := LS.out.2.1; have := LS.out.2.2.1; omega, by rw [← hF0]; exact fieldsB_lt _⟩
        have B4 : Hid (Below w.heap.size w w4) := B3.out.trans (hb4.mono B3.out.size)
        rw [hF0] at fs ⊢
        have FS : Hid (Src w4 fa (cellsB F0)) := fs
        rw [hl]
        clear hb4 o4 fs hF0 hl
        have hl9 : l ≤ 3021 := HF0.out.2.2.1
        have Z4 : Hid (w.heap.size ≤ w4.heap.size) := B4.out.size
        have SL : Hid (nodeL D = [105] ++ F0) := by show _ = _; unfold nodeL; rw [HKK.out, LS.out.1, HF0.out.1]; rfl
        have W4 : Hid (World.ownsRow (w4.alloc (.cells #[.int .u8 105] 5)) w4.heap.size 5 1 (.slice (some ⟨w4.heap.size, 0, none⟩) 1 1) 1 (cellsB [105])) := own_new (Nat.le_refl _) rfl rfl (by omega) rfl
        go_wp2_with (at_builtin; refine wpList_append_src _ rfl _ _ 22 rfl w4.heap.size 5 (.int .u8 0) 1 1 Tryd.underlying22 infoB rfl (by decide) (by decide) _ 1 (cellsB [105]) rfl W4.out fa l fc (cellsB F0) rfl (by rw [cellsB_length, HF0.out.2.1]; omega) (FS.out.below ((Below.refl _ _).alloc (Nat.le_refl _) _)) (cellsB_one _) (by omega) (by simp) ?_)
        intro v5 w5 hown5 hgrow5
        have O5 : Hid (w5.ownsRow w4.heap.size 5 1 v5 (1 + l) (cellsB (nodeL D))) := by rw [SL.out, cellsB_append]; exact hown5
        have B5' : Below w4.heap.size w4 w5 := below_append hgrow5 (fun g e => by cases e; exact Nat.le_refl _)
        have B5 : Hid (Below w.heap.size w w5) := B4.out.trans (B5'.mono Z4.out)
        obtain ⟨g, cap, rfl, hcap, s5⟩ := own_some O5.out (by omega)
        have S5 : Hid (Src w5 (some ⟨g, 0, none⟩) (cellsB (nodeL D)) ∧ (nodeL D).length = 1 + l ∧ ∀ x ∈ nodeL D, x < 256) := by
          refine ⟨s5, by rw [SL.out, List.length_append, HF0.out.2.1]; rfl, fun x hx => ?_⟩
          rw [SL.out, List.mem_append] at hx
          rcases hx with hx | hx
          · simp at hx; omega
          · exact HF0.out.2.2.2 x hx
        have HH5 : Hid (HasHalf w5) := HH.out.below B5.out
        clear hown5 hgrow5 B5' s5 FS W4
        go_wp2_with fail
        refine (implSealed g 0 (1 + l) cap (nodeL D) _ S5.out.2.1 (by omega) hcap S5.out.2.2 S5.out.1 HH5.out).mono ?_
        rintro e w6 ⟨v6, rfl, o6, hb6⟩
        have B6 : Hid (Below w.heap.size w w6) := B5.out.trans (hb6.mono B5.out.size)
        have O6 : Hid (w6.ownsRow w.heap.size 5 1 v6 (sealB (nodeL D)).length (cellsB (sealB (nodeL D))) ∧ (sealB (nodeL D)).length ≤ 1048576) := by
          have e6 : (sealB (nodeL D)).length = 1 + l + 4 := by unfold sealB; rw [List.length_append, S5.out.2.1]; rfl
          rw [e6]
          exact ⟨own_mono o6 B5.out.size, by omega⟩
        clear hb6 o6
        go_wp2_with fail
        go_ret2
        exact ⟨_, _, _, rfl, F.out, O6.out.1, O6.out.2, B6.out⟩
end Go.Proofs.YtnejklppbjkekaaDoor
