
/-
  The bytes of a superblock, by the program. By an AI agent.
-/
import Derived.Test.YtlkobhighhkmoaaDoorSeal
import Derived.Test.YtlkobhighhkmoaaDoorSok
import Derived.Test.YtlkobhighhkmoaaDoorFlds3
import Derived.Test.YtlkobhighhkmoaaDoorRdf
namespace Go.Proofs.YtlkobhighhkmoaaDoor
open Go.ChangeShapes Go.WideShapes Go.ChangeAt Go.RowKit Go.Deep
set_option linter.unusedVariables false
set_option maxRecDepth 100000

def snapH (x : SN) : List Nat := [(x.2.1 + 1).toNat % 256, x.2.2.toNat / 256 % 256, x.2.2.toNat % 256]
def snapF (x : SN) : ByteArray := strB (snapH x) ++ x.1
def superL (D : UM) : List Nat := 115 :: D.G.toNat % 256 :: (D.R + 1).toNat % 256 :: fieldsB (D.S.map snapF)
def superB (D : UM) : List Nat × Int := if okU D then (sealB (superL D), 0) else ([], 1)
theorem snapF_size (x : SN) : (snapF x).size = 3 + x.1.size := by
  unfold snapF; rw [ByteArray.size_append, strB_size]; rfl
theorem okU_facts {D : UM} (h : okU D = true) : 0 ≤ D.G ∧ D.G ≤ 200 ∧ -1 ≤ D.R ∧ D.R ≤ 49 ∧ D.S.length ≤ 4 ∧ ∀ i, i < D.S.length → (D.S.getD i sn0).1.size ≤ 8 ∧ -1 ≤ (D.S.getD i sn0).2.1 ∧ (D.S.getD i sn0).2.1 ≤ 49 ∧ 0 ≤ (D.S.getD i sn0).2.2 ∧ (D.S.getD i sn0).2.2 ≤ 60000 := by
  unfold okU at h
  simp only [Bool.and_eq_true, decide_eq_true_eq] at h
  obtain ⟨⟨⟨h1, h2⟩, h3⟩, h4⟩ := h
  unfold rootB at h2
  simp only [decide_eq_true_eq] at h2
  refine ⟨h1.1, h1.2, h2.1, h2.2, h3, fun i hi => ?_⟩
  unfold snapsB at h4
  rw [List.all_eq_true] at h4
  have h5 := h4 i (List.mem_range.2 hi)
  unfold snapB shortB rootB tickB at h5
  simp only [Bool.and_eq_true, decide_eq_true_eq] at h5
  exact ⟨h5.1.1.1.2, h5.1.1.2.1, h5.1.1.2.2, h5.1.2.1, h5.1.2.2⟩
theorem snapF_all {D : UM} (h : okU D = true) : ∀ y ∈ D.S.map snapF, y.size ≤ 300 := by
  intro y hy
  rw [List.mem_map] at hy
  obtain ⟨x, hx, rfl⟩ := hy
  obtain ⟨i, hi, rfl⟩ := List.getElem_of_mem hx
  have h1 := ((okU_facts h).2.2.2.2.2 i hi).1
  rw [List.getD_eq_getElem?_getD, List.getElem?_eq_getElem hi] at h1
  rw [snapF_size]
  simp at h1
  omega
theorem fieldsB_le (L : List ByteArray) (h : ∀ y ∈ L, y.size ≤ 300) : (fieldsB L).length ≤ 1 + L.length * 302 := by
  unfold fieldsB
  rw [List.length_cons]
  have : ∀ (M : List ByteArray), (∀ y ∈ M, y.size ≤ 300) → (M.flatMap fieldB).length ≤ M.length * 302 := by
    intro M
    induction M with
    | nil => intro _; simp
    | cons x M ih =>
      intro hM
      have h1 := ih fun y hy => hM y (List.mem_cons_of_mem _ hy)
      have h2 := hM x (List.mem_cons_self ..)
      rw [List.flatMap_cons, List.length_append, List.length_cons]
      have h3 : (fieldB x).length = 2 + x.size := by unfold fieldB numB; rw [List.length_append, bytesOf_length]; rfl
      omega
  have := this L h
  omega
theorem fieldsB_lt (L : List ByteArray) : ∀ x ∈ fieldsB L, x < 256 := by
  intro x hx
  unfold fieldsB at hx
  rw [List.mem_cons] at hx
  rcases hx with rfl | hx
  · omega
  · rw [List.mem_flatMap] at hx
    obtain ⟨s, _, hs⟩ := hx
    unfold fieldB numB bytesOf at hs
    simp at hs
    rcases hs with rfl | rfl | ⟨b, _, rfl⟩
    · omega
    · omega
    · exact b.toNat_lt
theorem fds_good {L : List ByteArray} (hn : L.length ≤ 200) (h : ∀ y ∈ L, y.size ≤ 300) : fdsA L = (fieldsB L, 0) := by
  unfold fdsA
  rw [if_neg (by omega), if_neg (by omega), if_neg]
  rintro ⟨x, hx, h1⟩
  have := h x hx
  omega

theorem src3 {w : World} {x1 x2 x3 : Nat} {z1 z2 z3 : Int} {B t : Nat} (hB : B = w.heap.size) (h1 : z1 = (x1 : Int)) (h2 : z2 = (x2 : Int)) (h3 : z3 = (x3 : Int)) : Src (w.alloc (.cells #[.int .u8 z1, .int .u8 z2, .int .u8 z3] t)) (some ⟨B, 0, none⟩) (cellsB [x1, x2, x3]) := by
  have hb : Box (w.alloc (.cells #[.int .u8 z1, .int .u8 z2, .int .u8 z3] t)) B [.int .u8 z1, .int .u8 z2, .int .u8 z3] := Box.new hB
  refine .inr ⟨B, 0, rfl, fun j hj => ?_⟩
  have hj4 : j < 3 := hj
  subst h1 h2 h3
  rw [Nat.zero_add]
  match j, hj4 with
  | 0, _ => exact (hb 0 _ rfl).1
  | 1, _ => exact (hb 1 _ rfl).1
  | 2, _ => exact (hb 2 _ rfl).1

set_option maxHeartbeats 2000000 in
theorem implSuperBytes (v : Value) (D : UM) (w : World) (hs : smallU D) (h : ReadsU w v D) (hH : HasHalf w) :
    Calls Tryd.prog 22 #[v] w fun e w' => ∃ u R q, e = .returned (.tuple #[u, .int .i64 q]) ∧ superB D = (R, q) ∧ w'.ownsRow w.heap.size 5 1 u R.length (cellsB R) ∧ R.length ≤ 1048576 ∧ Below w.heap.size w w' := by
  have HR : Hid (ReadsU w v D) := h
  have HS : Hid (smallU D) := hs
  have HH : Hid (HasHalf w) := hH
  obtain ⟨a, c, rfl, s1⟩ := h
  have S1 : Hid (Src w a (cellsSn D.S)) := s1
  obtain ⟨n, hn⟩ : ∃ n, D.S.length = n := ⟨_, rfl⟩
  obtain ⟨G, hG⟩ : ∃ G, D.G = G := ⟨_, rfl⟩
  obtain ⟨R0, hR⟩ : ∃ R, D.R = R := ⟨_, rfl⟩
  have ND : Hid (D.S.length = n ∧ D.G = G ∧ D.R = R0) := ⟨hn, hG, hR⟩
  obtain ⟨ok, hok⟩ : ∃ b, okU D = b := ⟨_, rfl⟩
  have HOK : Hid (okU D = ok) := hok
  rw [hn, hG, hR] at HR ⊢
  clear hs hH s1 hn hG hR hok
  go_enter Tryd.func22, Tryd.ntmps22
  go_wp2_with fail
  refine (implSuperOK _ D _ HS.out (HR.out.below ((Below.refl _ _).alloc (Nat.le_refl _) _))).mono ?_
  rw [HOK.out]
  rintro e w1 ⟨rfl, hb1⟩
  have B1 : Hid (Below w.heap.size w w1) := Below.new hb1
  have X1 : Hid (Box w1 w.heap.size [.int .i64 G, .int .i64 R0, .slice a n c]) := Box.below (Box.new rfl) hb1
  have Z1 : Hid (w.heap.size + 1 ≤ w1.heap.size) := size_new hb1
  clear hb1
  cases ok with
  | false =>
    have F : Hid (superB D = ([], 1)) := by show _ = _; unfold superB; rw [HOK.out]; rfl
    go_wp2_with fail
    go_ret2
    exact ⟨_, _, _, rfl, F.out, World.ownsRow_nil _ _ _ _, by simp, B1.out⟩
  | true =>
    have FA : Hid (0 ≤ G ∧ G ≤ 200 ∧ -1 ≤ R0 ∧ R0 ≤ 49 ∧ n ≤ 4 ∧ ∀ i, i < n → (D.S.getD i sn0).1.size ≤ 8 ∧ -1 ≤ (D.S.getD i sn0).2.1 ∧ (D.S.getD i sn0).2.1 ≤ 49 ∧ 0 ≤ (D.S.getD i sn0).2.2 ∧ (D.S.getD i sn0).2.2 ≤ 60000) := by
      have := okU_facts HOK.out
      rw [ND.out.1, ND.out.2.1, ND.out.2.2] at this
      exact this
    obtain ⟨p2, _⟩ := X1.out 2 _ rfl
    go_wp2_with fail
    go_loopw [4, 16] (fun lv iv wr => ∃ (k : Nat) (u : Value), u = lv ∧ k ≤ n ∧ iv = .int .i64 k ∧ Hid (Below w.heap.size w wr) ∧ Hid (Box wr w.heap.size [.int .i64 G, .int .i64 R0, .slice a n c]) ∧ Hid (wr.ownsRow (w.heap.size + 1) 9 1 u k (cellsS ((D.S.map snapF).take k)))) (fun _ i _ => n - (intOf i).toNat)
    case atStart => exact ⟨0, _, rfl, by omega, rfl, B1.out, X1.out, World.ownsRow_nil _ _ _ _⟩
    case round =>
      clear p2
      obtain ⟨k, u, hu, hk, rfl, hb, hx, ho⟩ := hrel
      subst hu
      by_cases hlt : k < n
      · have hki : (k : Int) < (n : Int) := by omega
        obtain ⟨b, o, x, y, z, rfl, q1, q2, q3, hy⟩ := srcSn (S1.out.below hb.out) (i := k) (by rw [ND.out.1]; exact hlt)
        have FK : x.size ≤ 8 ∧ -1 ≤ y ∧ y ≤ 49 ∧ 0 ≤ z ∧ z ≤ 60000 := by
          have h9 := FA.out.2.2.2.2.2 k hlt
          rw [hy.out] at h9
          exact h9
        obtain ⟨f1, f2, f3, f4, f5⟩ := FK
        obtain ⟨ss, hss⟩ : ∃ ss, strB (snapH (x, y, z)) = ss := ⟨_, rfl⟩
        have hcv : (convert 43 9 (.slice (some ⟨wr.heap.size + 1, 0, none⟩) 3 3)).run Tryd.prog ((wr.alloc (.cells #[.string x, .int .i64 y, .int .i64 z] 78)).alloc (.cells #[.int .u8 (y + 1), .int .u8 (z / 256), .int .u8 (z % 256)] 5)) = .ok (.string ss) ((wr.alloc (.cells #[.string x, .int .i64 y, .int .i64 z] 78)).alloc (.cells #[.int .u8 (y + 1), .int .u8 (z / 256), .int .u8 (z % 256)] 5)) := by
          have h9 := conv_sub (c := 3) (B := snapH (x, y, z)) (src3 (w := wr.alloc (.cells #[.string x, .int .i64 y, .int .i64 z] 78)) (t := 5) (B := wr.heap.size + 1) (z1 := y + 1) (z2 := z / 256) (z3 := z % 256) (x1 := (y + 1).toNat % 256) (x2 := z.toNat / 256 % 256) (x3 := z.toNat % 256) (by simp) (by omega) (by omega) (by omega)) (s := 3) (Nat.le_refl _)
          rw [← hss]
          exact h9
        have SF : Hid (snapF (x, y, z) = ss ++ x) := by show _ = _; unfold snapF; rw [hss]
        have NX : Hid ((D.S.map snapF).take (k + 1) = (D.S.map snapF).take k ++ [ss ++ x]) := by
          show _ = _
          rw [List.take_succ_eq_append_getElem (by rw [List.length_map, ND.out.1]; exact hlt), List.getElem_map, ← SF.out, ← hy.out, List.getD_eq_getElem?_getD, List.getElem?_eq_getElem (by rw [ND.out.1]; exact hlt)]
          rfl
        have hn4 : n ≤ 4 := FA.out.2.2.2.2.1
        have hs3 : ss.size = 3 := by rw [← hss, strB_size]; rfl
        clear hss
        have XR : Hid (w.heap.size + 1 ≤ wr.heap.size) := World.block_lt_of_cell? _ _ (hx.out 0 _ rfl).1
        have hlt3 : Hid (∀ g, Value.ownBlock u = some g → w.heap.size + 1 ≤ g ∧ g < wr.heap.size) := fun g e => ho.out.lt g e
        go_wp2_with (at_builtin; refine wpList_append_src _ rfl _ _ 22 rfl (w.heap.size + 1) 9 (.string ⟨#[]⟩) 1 16 Tryd.underlying22 infoS rfl (by decide) (by decide) _ k (cellsS ((D.S.map snapF).take k)) rfl (((ho.out.alloc _).alloc _).alloc _) (some ⟨wr.heap.size + 1 + 1, 0, none⟩) 1 1 (cellsS [ss ++ x]) rfl rfl (src_oneS (by simp)) (cellsS_one _) (by omega) (by have := XR.out; simp; omega) ?_)
        intro v2 w2 hown2 hgrow2
        have O2 : Hid (w2.ownsRow (w.heap.size + 1) 9 1 v2 (k + 1) (cellsS ((D.S.map snapF).take (k + 1)))) := by rw [NX.out, cellsS_append]; exact hown2
        have BB : Below wr.heap.size wr (((wr.alloc (.cells #[.string x, .int .i64 y, .int .i64 z] 78)).alloc (.cells #[.int .u8 (y + 1), .int .u8 (z / 256), .int .u8 (z % 256)] 5)).alloc (.cells #[.string (ss ++ x)] 9)) := (((Below.refl _ _).alloc (Nat.le_refl _) _).alloc (by simp) _).alloc (by simp; omega) _
        have B2 : Hid (Below w.heap.size w w2) := (hb.out.trans (BB.mono hb.out.size)).grown hgrow2 (by have := XR.out; simp; omega) (fun g e => by have := (hlt3.out g e).1; omega)
        have X2 : Hid (Box w2 w.heap.size [.int .i64 G, .int .i64 R0, .slice (some ⟨b, o, none⟩) n c]) := Box.grown (hx.out.below BB) hgrow2 (fun e => by have := (hlt3.out _ e).1; omega)
        clear hown2 hgrow2 hcv
        go_wp2_with fail
        exact ⟨⟨k + 1, _, rfl, by omega, by go_num, B2.out, X2.out, O2.out⟩, by simp [intOf]; omega⟩
      · have hkn : k = n := by omega
        have FO : Hid (wr.ownsRow (w.heap.size + 1) 9 1 u n (cellsS (D.S.map snapF))) := by
          have h9 := ho.out
          rw [hkn, List.take_of_length_le (by rw [List.length_map, ND.out.1]; exact Nat.le_refl _)] at h9
          exact h9
        obtain ⟨la, lc, rfl, ls, _⟩ := own_src FO.out
        have LS : Hid (Src wr la (cellsS (D.S.map snapF)) ∧ (D.S.map snapF).length = n ∧ n ≤ 4 ∧ ∀ y ∈ D.S.map snapF, y.size ≤ 300) := ⟨ls, by rw [List.length_map, ND.out.1], FA.out.2.2.2.2.1, snapF_all HOK.out⟩
        clear hkn ho ls
        go_wp2_with fail
        refine (implFieldsBytes la n lc (D.S.map snapF) _ LS.out.2.1 (by have := LS.out.2.2.1; omega) (fun y hy => by have := LS.out.2.2.2 y hy; omega) LS.out.1).mono ?_
        rintro e w3 ⟨v3, R3, q3, rfl, he3, o3, hb3⟩
        rw [fds_good (by rw [LS.out.2.1]; have := LS.out.2.2.1; omega) LS.out.2.2.2, Prod.mk.injEq] at he3
        obtain ⟨rfl, rfl⟩ := he3
        obtain ⟨fa, fc, rfl, fs, _⟩ := own_src o3
        obtain ⟨F0, hF0⟩ : ∃ F0, fieldsB (D.S.map snapF) = F0 := ⟨_, rfl⟩
        obtain ⟨m, hm⟩ : ∃ m, F0.length = m := ⟨_, rfl⟩
        have HF0 : Hid (fieldsB (D.S.map snapF) = F0 ∧ F0.length = m ∧ m ≤ 1209 ∧ (∀ x ∈ F0, x < 256)) := ⟨hF0, hm, by rw [← hm, ← hF0]; have := fieldsB_le _ LS.out.2.2.2; have := LS.out.2.1; have := LS.out.2.2.1; omega, by rw [← hF0]; exact fieldsB_lt _⟩
        have B3 : Hid (Below w.heap.size w w3) := hb.out.trans (hb3.mono hb.out.size)
        have X3 : Hid (Box w3 w.heap.size [.int .i64 G, .int .i64 R0, .slice a n c]) := hx.out.below hb3
        rw [hF0] at fs ⊢
        have FS : Hid (Src w3 fa (cellsB F0)) := fs
        rw [hm]
        clear hb3 o3 fs hF0 hm hb hx
        obtain ⟨p0, _⟩ := X3.out 0 _ rfl
        obtain ⟨p1, _⟩ := X3.out 1 _ rfl
        obtain ⟨fg1, fg2, fr1, fr2, _⟩ := FA.out
        have hm9 : m ≤ 1209 := HF0.out.2.2.1
        have Z3 : Hid (w.heap.size ≤ w3.heap.size) := B3.out.size
        have SL : Hid (superL D = [115, G.toNat % 256, (R0 + 1).toNat % 256] ++ F0) := by show _ = _; unfold superL; rw [HF0.out.1, ND.out.2.1, ND.out.2.2]; rfl
        have C3 : Hid ((#[.int .u8 115, .int .u8 G, .int .u8 (R0 + 1)] : Array Value).toList = cellsB [115, G.toNat % 256, (R0 + 1).toNat % 256]) := by
          show [Value.int .u8 115, .int .u8 G, .int .u8 (R0 + 1)] = [Value.int .u8 ((115 : Nat) : Int), .int .u8 ((G.toNat % 256 : Nat) : Int), .int .u8 (((R0 + 1).toNat % 256 : Nat) : Int)]
          rw [show ((G.toNat % 256 : Nat) : Int) = G from by omega, show (((R0 + 1).toNat % 256 : Nat) : Int) = R0 + 1 from by omega]
          rfl
        have W3 : Hid (World.ownsRow (w3.alloc (.cells #[.int .u8 115, .int .u8 G, .int .u8 (R0 + 1)] 5)) w3.heap.size 5 1 (.slice (some ⟨w3.heap.size, 0, none⟩) 3 3) 3 (cellsB [115, G.toNat % 256, (R0 + 1).toNat % 256])) := own_new (Nat.le_refl _) C3.out rfl (by omega) rfl
        go_wp2_with (at_builtin; refine wpList_append_src _ rfl _ _ 43 rfl w3.heap.size 5 (.int .u8 0) 1 1 Tryd.underlying43 infoB rfl (by decide) (by decide) _ 3 (cellsB [115, G.toNat % 256, (R0 + 1).toNat % 256]) rfl W3.out fa m fc (cellsB F0) rfl (by rw [cellsB_length, HF0.out.2.1]; omega) (FS.out.below ((Below.refl _ _).alloc (Nat.le_refl _) _)) (cellsB_one _) (by omega) (by simp) ?_)
        intro v4 w4 hown4 hgrow4
        have O4 : Hid (w4.ownsRow w3.heap.size 5 1 v4 (3 + m) (cellsB (superL D))) := by rw [SL.out, cellsB_append]; exact hown4
        have B4' : Below w3.heap.size w3 w4 := below_append hgrow4 (fun g e => by cases e; exact Nat.le_refl _)
        have B4 : Hid (Below w.heap.size w w4) := B3.out.trans (B4'.mono Z3.out)
        have Z4 : Hid (w3.heap.size ≤ w4.heap.size) := B4'.size
        obtain ⟨g, cap, rfl, hcap, s4⟩ := own_some O4.out (by omega)
        have S4 : Hid (Src w4 (some ⟨g, 0, none⟩) (cellsB (superL D)) ∧ (superL D).length = 3 + m ∧ ∀ x ∈ superL D, x < 256) := by
          refine ⟨s4, by rw [SL.out, List.length_append, HF0.out.2.1]; rfl, fun x hx => ?_⟩
          rw [SL.out, List.mem_append] at hx
          rcases hx with hx | hx
          · simp at hx; omega
          · exact HF0.out.2.2.2 x hx
        have HH4 : Hid (HasHalf w4) := HH.out.below B4.out
        clear hown4 hgrow4 B4' s4 p0 p1 X3 FS W3 C3
        go_wp2_with fail
        refine (implSealed g 0 (3 + m) cap (superL D) _ S4.out.2.1 (by omega) hcap S4.out.2.2 S4.out.1 HH4.out).mono ?_
        rintro e w5 ⟨v5, rfl, o5, hb5⟩
        have B5 : Hid (Below w.heap.size w w5) := B4.out.trans (hb5.mono B4.out.size)
        have O5 : Hid (w5.ownsRow w.heap.size 5 1 v5 (sealB (superL D)).length (cellsB (sealB (superL D))) ∧ (sealB (superL D)).length ≤ 1048576) := by
          have e5 : (sealB (superL D)).length = 3 + m + 4 := by unfold sealB; rw [List.length_append, S4.out.2.1]; rfl
          rw [e5]
          exact ⟨own_mono o5 B4.out.size, by omega⟩
        have F : Hid (superB D = (sealB (superL D), 0)) := by show _ = _; unfold superB; rw [HOK.out]; rfl
        clear hb5 o5
        go_wp2_with fail
        go_ret2
        exact ⟨_, _, _, rfl, F.out, O5.out.1, O5.out.2, B5.out⟩
end Go.Proofs.YtlkobhighhkmoaaDoor
