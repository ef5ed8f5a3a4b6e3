/-
  Texts of the store, brought together: Lod. By an AI agent.
-/
import Derived.Test.YtnnimocaanofjaaGreatDoorSq34
import Derived.Deep.LoopGhost
import Derived.Deep.CutRange
namespace Go.Proofs.YtnnimocaanofjaaGreatDoor
open Go.ChangeShapes Go.WideShapes Go.ChangeAt Go.RowKit Go.Deep
set_option linter.unusedVariables false
set_option linter.unusedSimpArgs false
set_option maxRecDepth 100000
def pageAt (D : DM) (k : Nat) : Option NM := nodeR (bytesOf (lastOr (byS D.C (2 + k)) (D.S.getD (2 + k) e0)))
def LoadPost (G : Nat → Option NM) (L : List Int) (w' : World) (v : Value) (b : Bool) : Prop :=
  ∃ a c, v = .agg #[.slice a 50 c] ∧ ((b = true ∧ ∃ Hs A, loadF G (250 + L.length) L freshH = some Hs ∧ Hs.length = 50 ∧ allF Hs L st0.R = some A ∧ A.length = 50 ∧ ReadsHL w' a Hs) ∨ (b = false ∧ (loadF G (250 + L.length) L freshH = none ∨ ∃ Hs, loadF G (250 + L.length) L freshH = some Hs ∧ allF Hs L st0.R = none)))
structure LoadAt (G : Nat → Option NM) (L : List Int) (n : Nat) (wr : World) (gN B6 g o c : Nat) (T : List Int) (H : List NM) : Prop where
  fuel : 5 * freeC H + T.length ≤ n
  top : n ≤ 250 + L.length
  off : OffI wr g o c T
  heap : HeapAt wr gN g H
  pages : ∀ k ∈ T, k = -1 ∨ pageB k = true
  read : ∀ i, H.getD i nm0 = nm0 ∨ G i = some (H.getD i nm0)
  same : loadF G n T H = loadF G (250 + L.length) L freshH
  far : B6 < g
theorem LoadAt.below {G : Nat → Option NM} {L : List Int} {n : Nat} {wr w' : World} {gN B6 g o c : Nat} {T : List Int} {H : List NM} (h : LoadAt G L n wr gN B6 g o c T H) (hb : Below wr.heap.size wr w') : LoadAt G L n w' gN B6 g o c T H :=
  ⟨h.fuel, h.top, h.off.below hb, h.heap.below hb, h.pages, h.read, h.same, h.far⟩
theorem load_pass {G : Nat → Option NM} {n : Nat} {k : Int} {T : List Int} {H : List NM} (h : k < 0 ∨ freeB (H.getD k.toNat nm0) = false) : loadF G (n + 1) (k :: T) H = loadF G n T H := by
  rw [loadF]
  by_cases h1 : k < 0
  · rw [if_pos h1]
  · rw [if_neg h1, if_pos (by rcases h with h | h; exact absurd h h1; exact h)]
theorem load_bad {G : Nat → Option NM} {n : Nat} {k : Int} {T : List Int} {H : List NM} (h1 : ¬ k < 0) (h2 : freeB (H.getD k.toNat nm0) = true) (h3 : G k.toNat = none) : loadF G (n + 1) (k :: T) H = none := by
  rw [loadF, if_neg h1, if_neg (by rw [h2]; decide), h3]
theorem load_take {G : Nat → Option NM} {n : Nat} {k : Int} {T : List Int} {H : List NM} {D : NM} (h1 : ¬ k < 0) (h2 : freeB (H.getD k.toNat nm0) = true) (h3 : G k.toNat = some D) : loadF G (n + 1) (k :: T) H = loadF G n (T ++ D.K) (H.set k.toNat D) := by
  rw [loadF, if_neg h1, if_neg (by rw [h2]; decide), h3]
theorem LoadAt.pass {G : Nat → Option NM} {L : List Int} {n : Nat} {wr : World} {gN B6 g o c : Nat} {k : Int} {T : List Int} {H : List NM} (h : LoadAt G L n wr gN B6 g o c (k :: T) H) (hk : k < 0 ∨ freeB (H.getD k.toNat nm0) = false) :
    ∃ o', cutP (some ⟨g, o, none⟩) c 1 1 = some ⟨g, o', none⟩ ∧ LoadAt G L (n - 1) wr gN B6 g o' (c - 1) T H ∧ n - 1 < n := by
  obtain ⟨o', e, ho⟩ := h.off.tail
  have hf := h.fuel
  rw [List.length_cons] at hf
  obtain ⟨m, rfl⟩ : ∃ m, n = m + 1 := ⟨n - 1, by omega⟩
  refine ⟨o', e, ⟨by simp; omega, by have := h.top; omega, ho, h.heap, fun q hq => h.pages q (List.mem_cons_of_mem _ hq), h.read, ?_, h.far⟩, by omega⟩
  rw [← h.same, load_pass hk]
  rfl
theorem LoadAt.take {G : Nat → Option NM} {L : List Int} {n : Nat} {wr w' : World} {gN B6 g o c g' o' c' : Nat} {k : Int} {T : List Int} {H : List NM} {D : NM} (h : LoadAt G L n wr gN B6 g o c (k :: T) H) (hk : pageB k = true) (hf : freeB (H.getD k.toNat nm0) = true) (hG : G k.toNat = some D) (hD : freeB D = false ∧ D.K.length ≤ 4 ∧ ∀ k ∈ D.K, pageB k = true)
    (ho : OffI w' g' o' c' (T ++ D.K)) (hh : HeapAt w' gN g' (H.set k.toNat D)) (hfar : B6 < g') : LoadAt G L (n - 1) w' gN B6 g' o' c' (T ++ D.K) (H.set k.toNat D) := by
  obtain ⟨p1, p2⟩ := page_nat hk
  have hl : H.length = 50 := h.heap.2.2.1
  have hc := freeC_set H k.toNat D (by omega) hf hD.1
  have hfu := h.fuel
  rw [List.length_cons] at hfu
  obtain ⟨m, rfl⟩ : ∃ m, n = m + 1 := ⟨n - 1, by omega⟩
  refine ⟨by rw [List.length_append]; have := hD.2.1; simp; omega, by have := h.top; omega, ho, hh, fun q hq => ?_, fun i => ?_, ?_, hfar⟩
  · rcases List.mem_append.1 hq with hq | hq
    · exact h.pages q (List.mem_cons_of_mem _ hq)
    · exact .inr (hD.2.2 q hq)
  · rw [set_getN D (by omega)]
    by_cases e : k.toNat = i
    · rw [if_pos e]; exact .inr (e ▸ hG)
    · rw [if_neg e]; exact h.read i
  · rw [← h.same, load_take (by omega) hf hG]
    rfl
set_option maxHeartbeats 4000000 in
theorem l04Load (a1 a2 a3 sa : Option Addr) (n1 c1 n2 c2 n3 c3 k0 sc : Nat) (AA : Bool) (gG rR : Int) (D : DM) (U : UM) (w : World) (hs : smallD D) (hN : D.S.length = n1 ∧ D.C.length = n2 ∧ D.K.length = n3 ∧ D.A = AA) (h52 : D.S.length = 52) (hp : ∀ p ∈ D.C, 0 ≤ p.1) (hz : ∀ j, j < 52 → (lastOr (byS D.C j) (D.S.getD j e0)).size ≤ 420) (hr : ReadsD w (.agg #[.slice a1 n1 c1, .slice a2 n2 c2, .bool AA, .slice a3 n3 c3]) D)
    (hU : ReadsU w (.agg #[.int .i64 gG, .int .i64 rR, .slice sa k0 sc]) U) (hUl : U.S.length ≤ 4) (hUr : ∀ r ∈ rootsU U, r = -1 ∨ pageB r = true) :
    Calls Tryz.prog 36 #[.agg #[.slice a1 n1 c1, .slice a2 n2 c2, .bool AA, .slice a3 n3 c3], .agg #[.int .i64 gG, .int .i64 rR, .slice sa k0 sc]] w fun e w' => ∃ v b, e = .returned (.tuple #[v, .bool b]) ∧ LoadPost (pageAt D) (rootsU U) w' v b ∧ Below w.heap.size w w' := by
  have HD : Hid (ReadsD w (.agg #[.slice a1 n1 c1, .slice a2 n2 c2, .bool AA, .slice a3 n3 c3]) D) := hr
  have HU : Hid (ReadsU w (.agg #[.int .i64 gG, .int .i64 rR, .slice sa k0 sc]) U) := hU
  have HS : Hid (smallD D ∧ D.S.length = 52 ∧ (∀ p ∈ D.C, 0 ≤ p.1) ∧ ∀ j, j < 52 → (lastOr (byS D.C j) (D.S.getD j e0)).size ≤ 420) := ⟨hs, h52, hp, hz⟩
  have HL : Hid (U.S.length ≤ 4 ∧ ∀ r ∈ rootsU U, r = -1 ∨ pageB r = true) := ⟨hUl, hUr⟩
  clear hr hU hs hN h52 hp hUl hUr hz
  obtain ⟨L, hL⟩ : ∃ L, rootsU U = L := ⟨_, rfl⟩
  obtain ⟨G, hG⟩ : ∃ G, pageAt D = G := ⟨_, rfl⟩
  have EL : Hid (rootsU U = L) := hL
  have EG : Hid (pageAt D = G) := hG
  rw [hL, hG]
  clear hL hG
  have LL : Hid (1 ≤ L.length ∧ L.length ≤ 5) := by rw [← EL.out, rootsU_length]; have := HL.out.1; exact ⟨by omega, by omega⟩
  go_enter Tryz.func36, Tryz.ntmps36
  go_wp2_with fail
  have A3 : Hid (∀ x y z, Below w.heap.size w (((w.alloc x).alloc y).alloc z)) := fun x y z => (((Below.refl _ _).alloc (Nat.le_refl _) _).alloc (by simp) _).alloc (by simp; omega) _
  refine (specNewHeap _).mono ?_
  rintro e w1 ⟨v1, rfl, own1, hb1⟩
  obtain ⟨u1, rfl, own2⟩ := own1
  have own3 : OwnsHL w1 (w.heap.size + 3) w1.heap.size u1 50 freshH := by
    have h9 := own2
    simp only [World.size_alloc] at h9
    have e9 : freshH.length = 50 := by simp [freshH]
    rw [e9] at h9
    exact h9
  obtain ⟨gN, cN, rfl⟩ : ∃ g c, u1 = .slice (some ⟨g, 0, none⟩) 50 c := by
    obtain ⟨V, o9, _⟩ := own3
    exact own_someT o9 (by omega)
  have ON : Hid (OwnsHL w1 (w.heap.size + 3) w1.heap.size (.slice (some ⟨gN, 0, none⟩) 50 cN) 50 freshH) := own3
  have GN : Hid (w.heap.size + 3 ≤ gN ∧ gN < w1.heap.size) := by
    obtain ⟨V, o9, _⟩ := own3
    exact o9.lt gN rfl
  have B1 : Hid (Below w.heap.size w w1) := (A3.out _ _ _).trans (hb1.mono (by simp; omega))
  have X0 : Hid (Box w1 w.heap.size [.slice a1 n1 c1, .slice a2 n2 c2, .bool AA, .slice a3 n3 c3]) := Box.below (((Box.new rfl).old _).old _) hb1
  have X1 : Hid (Box w1 (w.heap.size + 1) [.int .i64 gG, .int .i64 rR, .slice sa k0 sc]) := Box.below ((Box.new (by simp)).old _) hb1
  have X2 : Hid (Box w1 (w.heap.size + 1 + 1) [.slice none 0 0]) := Box.below (Box.new (by simp)) hb1
  clear hb1 own2 own3
  obtain ⟨p0, _⟩ := (X1.out.old (.cells #[.slice (some ⟨gN, 0, none⟩) 50 cN] 45)) 0 _ rfl
  obtain ⟨p1, _⟩ := (X1.out.old (.cells #[.slice (some ⟨gN, 0, none⟩) 50 cN] 45)) 1 _ rfl
  obtain ⟨p2, _⟩ := (X1.out.old (.cells #[.slice (some ⟨gN, 0, none⟩) 50 cN] 45)) 2 _ rfl
  dsimp only
  go_wp2_with fail
  have B1' : Hid (Below w.heap.size w (w1.alloc (.cells #[.slice (some ⟨gN, 0, none⟩) 50 cN] 45))) := B1.out.alloc B1.out.size _
  refine (specRoots _ U _ (by have := HL.out.1; omega) (HU.out.below B1'.out)).mono ?_
  rw [EL.out]
  rintro e w2 ⟨u2, rfl, own2, hb2⟩
  obtain ⟨g2, d2, rfl⟩ := own_someT own2 (by have := LL.out.1; omega)
  have OI : Hid (OffI w2 g2 0 d2 L) := OffI.of_own own2
  have GR : Hid (w1.heap.size < g2 ∧ g2 < w2.heap.size) := by have := own2.lt g2 rfl; simp at this; exact ⟨by omega, this.2⟩
  have B2 : Hid (Below w.heap.size w w2) := B1.out.trans ((Below.new hb2).mono B1.out.size)
  have HA : Hid (HeapAt w2 gN g2 freshH) := HeapAt.fresh (ON.out.below (Below.new hb2)) (by have h1 := GN.out; have h2 := GR.out; omega)
  have Y0 : Hid (Box w2 w.heap.size [.slice a1 n1 c1, .slice a2 n2 c2, .bool AA, .slice a3 n3 c3]) := X0.out.below (Below.new hb2)
  have Y1 : Hid (Box w2 (w.heap.size + 1) [.int .i64 gG, .int .i64 rR, .slice sa k0 sc]) := X1.out.below (Below.new hb2)
  have Y2 : Hid (Box w2 (w.heap.size + 1 + 1) [.slice none 0 0]) := X2.out.below (Below.new hb2)
  have Y6 : Hid (Box w2 w1.heap.size [.slice (some ⟨gN, 0, none⟩) 50 cN]) := Box.below (Box.new rfl) hb2
  clear own2 hb2 B1' p0 p1 p2 X0 X1 X2 ON
  obtain ⟨B6, hB6⟩ : ∃ B6, w1.heap.size = B6 := ⟨_, rfl⟩
  have ZB : Hid (w.heap.size + 3 ≤ gN ∧ gN < B6) := by rw [← hB6]; exact GN.out
  have G2 : Hid (B6 < g2) := by rw [← hB6]; exact GR.out.1
  rw [hB6] at Y6
  rw [hB6]
  have LA : Hid (LoadAt G L (250 + L.length) w2 gN B6 g2 0 d2 L freshH) := by
    refine ⟨?_, Nat.le_refl _, OI.out, HA.out, by rw [← EL.out]; exact HL.out.2, fun i => .inl ?_, rfl, G2.out⟩
    · have : freeC freshH = 50 := free_new
      omega
    · unfold freshH
      rw [List.getD_eq_getElem?_getD, List.getElem?_replicate]
      split <;> rfl
  clear GN GR OI HA hB6 B1 G2
  go_wp2_with fail
  go_loopg [7] (250 + L.length) (fun n t wr => ∃ (g o c : Nat) (T : List Int) (H : List NM), t = .slice (some ⟨g, o, none⟩) T.length c ∧ Hid (LoadAt G L n wr gN B6 g o c T H) ∧ Hid (Below w.heap.size w wr) ∧ Hid (Box wr w.heap.size [.slice a1 n1 c1, .slice a2 n2 c2, .bool AA, .slice a3 n3 c3]) ∧ Hid (Box wr (w.heap.size + 1) [.int .i64 gG, .int .i64 rR, .slice sa k0 sc]) ∧ Hid (Box wr (w.heap.size + 1 + 1) [.slice none 0 0]) ∧ Hid (Box wr B6 [.slice (some ⟨gN, 0, none⟩) 50 cN]))
  case atStart => exact ⟨g2, 0, d2, L, freshH, rfl, LA, B2, Y0, Y1, Y2, Y6⟩
  case round =>
    clear LA B2 Y0 Y1 Y2 Y6
    obtain ⟨g, o, c, T, H, rfl, la, hb, x0, x1, x2, x6⟩ := hrel
    cases T with
    | nil =>
      have F : Hid (loadF G (250 + L.length) L freshH = some H) := by show _ = _; rw [← la.out.same, loadF]
      have RH : Hid (ReadsHL wr (some ⟨gN, 0, none⟩) H ∧ H.length = 50) := ⟨la.out.heap.reads, la.out.heap.2.2.1⟩
      have HP : Hid (HeapAt wr gN g H) := la.out.heap
      have SM : Hid (smallH H) := by
        refine heap_small RH.out.2 (fun i => ?_)
        rcases la.out.read i with h | h
        · rw [h]; exact ⟨⟨by decide, (fun x hx => by cases hx), fun x hx => by cases hx⟩, by decide⟩
        · rw [← EG.out] at h
          by_cases hi : i < 50
          · refine nodeR_small h ?_ (bytesOf_lt _)
            have h9 := HS.out.2.2.2 (2 + i) (by omega)
            rw [bytesOf_length]
            omega
          · have h9 : H.getD i nm0 = nm0 := by rw [List.getD_eq_getElem?_getD, List.getElem?_eq_none (by have := RH.out.2; omega)]; rfl
            rw [h9]; exact ⟨⟨by decide, (fun x hx => by cases hx), fun x hx => by cases hx⟩, by decide⟩
      have HRO : Hid (∀ W, Below w.heap.size w W → Calls Tryz.prog 69 #[.agg #[.int .i64 gG, .int .i64 rR, .slice sa k0 sc]] W fun e w' => ∃ q d, e = .returned (.slice (some ⟨q, 0, none⟩) L.length d) ∧ Src w' (some ⟨q, 0, none⟩) (cellsI L) ∧ Below W.heap.size W w') := fun W hW => by
        refine (specRoots _ U _ (by have := HL.out.1; omega) (HU.out.below hW)).mono ?_
        rw [EL.out]
        rintro e w2 ⟨u2, rfl, own2, hb2⟩
        obtain ⟨q, d, rfl⟩ := own_someT own2 (by have := LL.out.1; omega)
        obtain ⟨a9, c9, e9, s9, _⟩ := own_src own2
        cases e9
        exact ⟨q, d, rfl, s9, hb2⟩
      have HRE : Hid (∀ W q d, Below wr.heap.size wr W → Src W (some ⟨q, 0, none⟩) (cellsI L) → Calls Tryz.prog 68 #[.agg #[.slice (some ⟨gN, 0, none⟩) 50 cN], .slice (some ⟨q, 0, none⟩) L.length d] W fun e w' => ∃ u b, e = .returned (.tuple #[u, .bool b]) ∧ (b = true → ∃ A, allF H L st0.R = some A ∧ A.length = 50) ∧ (b = false → allF H L st0.R = none) ∧ Below W.heap.size W w') := fun W q d hW hS => by
        have h9 : ReadsH W (.agg #[.slice (some ⟨gN, 0, none⟩) 50 cN]) H := ⟨_, _, by rw [RH.out.2], RH.out.1.below hW⟩
        refine (l03Reached _ H _ _ d L W SM.out h9 rfl (by have := LL.out.2; omega) hS).mono ?_
        rintro e w' ⟨hb, (⟨h1, u, rfl⟩ | ⟨A, u, h1, h2, rfl, _⟩)⟩
        · exact ⟨u, false, rfl, fun h => (by cases h), fun _ => h1, hb⟩
        · exact ⟨u, true, rfl, fun _ => ⟨A, h1, h2⟩, fun h => (by cases h), hb⟩
      have BD : Hid (Below w.heap.size w wr.drew) := hb.out.drew
      have BE : Hid (Below wr.heap.size wr wr.drew) := (Below.refl _ _).drew
      obtain ⟨y0, _⟩ := x1.out 0 _ rfl
      obtain ⟨y1, _⟩ := x1.out 1 _ rfl
      obtain ⟨y2, _⟩ := x1.out 2 _ rfl
      obtain ⟨y6, _⟩ := x6.out 0 _ rfl
      clear la SM
      go_wp2_with fail
      go_region_with (first | (go_at_call 68; refine (HRE.out _ q7 d7 BW7.out S7.out).mono ?_; rintro e w8 ⟨u8, b8, rfl, t8, f8, hb8⟩; have RB8 : Hid ((b8 = true → ∃ A, allF H L st0.R = some A ∧ A.length = 50) ∧ (b8 = false → allF H L st0.R = none)) := ⟨t8, f8⟩; have BW8 : Hid (Below wr.heap.size wr w8) := BW7.out.trans (hb8.mono BW7.out.size); clear t8 f8 hb8) | (go_at_call 69; refine (HRO.out _ BD.out).mono ?_; rintro e w7 ⟨q7, d7, rfl, s7, hb7⟩; have S7 : Hid (Src w7 (some ⟨q7, 0, none⟩) (cellsI L)) := s7; have BW7 : Hid (Below wr.heap.size wr w7) := BE.out.trans (hb7.mono BE.out.size); have y67 := (x6.out.below BW7.out 0 _ rfl).1; clear hb7 s7))
      all_goals
        have Q2 : Hid (Box w8 (w.heap.size + 1 + 1) [.slice none 0 0]) := x2.out.below BW8.out
        have Q6 : Hid (Box w8 B6 [.slice (some ⟨gN, 0, none⟩) 50 cN]) := x6.out.below BW8.out
        obtain ⟨z2, g2⟩ := Q2.out 0 _ rfl
        obtain ⟨z6, _⟩ := Q6.out 0 _ rfl
        obtain ⟨r0, _⟩ := (Q2.out.set 0 (.slice (some ⟨gN, 0, none⟩) 50 cN)) 0 _ rfl
        go_wp2_with fail
        refine bodyPost_ret (v := .tuple #[.agg #[.slice (some ⟨gN, 0, none⟩) 50 cN], .bool b8]) (by simp [results, Tryz.results36, go_sem, r0]) rfl ⟨_, _, rfl, ⟨_, _, rfl, ?_⟩, ?_⟩
        · cases b8 with
          | true =>
            obtain ⟨A, hA, hA2⟩ := RB8.out.1 rfl
            refine .inl ⟨rfl, H, A, F.out, RH.out.2, hA, hA2, ?_⟩
            exact (HP.out.below BW8.out).readsSet (by have := ZB.out; omega) _
          | false => exact .inr ⟨rfl, .inr ⟨H, F.out, RB8.out.2 rfl⟩⟩
        · exact Below.setCell (hb.out.trans (BW8.out.mono hb.out.size)) (by dsimp only; omega) _
    | cons k T =>
      obtain ⟨m, hm⟩ : ∃ m, (k :: T).length = m := ⟨_, rfl⟩
      have hm0 : (0 : Int) < (m : Int) := by rw [← hm, List.length_cons]; omega
      have MT : Hid (T.length = m - 1 ∧ 1 ≤ m) := by rw [← hm, List.length_cons]; exact ⟨by omega, by omega⟩
      rw [hm]
      have q0 := la.out.off.head
      obtain ⟨o', ec, ho'⟩ := la.out.off.tail
      have cut1 : ∀ W, (Instr.slice 24 (.slice (some ⟨g, o, none⟩) m c) (some (.int .i64 1)) none none).run Tryz.prog W = .ok (.slice (some ⟨g, o', none⟩) (m - 1) (c - 1)) W := fun W => by
        have h9 := cut_l (P := Tryz.prog) (e := 3) Tryz.underlying24 (fun w => Tryz.sizeOf3 w) (some ⟨g, o, none⟩) m c 1 MT.out.2 W
        rw [ec] at h9
        exact h9
      have EC : Hid (cutP (some ⟨g, o, none⟩) c 1 1 = some ⟨g, o', none⟩ ∧ OffI wr g o' (c - 1) T) := ⟨ec, ho'⟩
      clear hm ec ho'
      by_cases hneg : k < 0
      · have LP : Hid (LoadAt G L (gk - 1) wr gN B6 g o' (c - 1) T H ∧ gk - 1 < gk) := by
          obtain ⟨o9, e9, h9⟩ := la.out.pass (.inl hneg)
          rw [EC.out.1] at e9
          cases e9
          exact h9
        clear la
        go_wp2_with fail
        go_roundg (gk - 1)
        case measure => exact LP.out.2
        case rel => exact ⟨g, o', c - 1, T, H, by rw [MT.out.1], LP.out.1, hb, x0, x1, x2, x6⟩
      · have hpg : pageB k = true := by
          rcases la.out.pages k (List.mem_cons_self ..) with h | h
          · omega
          · exact h
        obtain ⟨kn, rfl⟩ : ∃ kn : Nat, k = (kn : Int) := ⟨k.toNat, by omega⟩
        have hk50 : kn < 50 := (page_nat hpg).2
        have hk0 : (0 : Int) ≤ (kn : Int) := by omega
        have hki : (kn : Int) < (50 : Int) := by omega
        have HK : Hid (pageB (kn : Int) = true) := hpg
        obtain ⟨_, hgl, hl50, V, hV, hbx, hrd⟩ := la.out.heap
        have hrk := hrd kn hk50
        obtain ⟨b1, d1, b2, d2, b3, d3, ev, _⟩ := hrk
        obtain ⟨N, hN⟩ : ∃ N, H.getD kn nm0 = N := ⟨_, rfl⟩
        have HN : Hid (H.getD kn nm0 = N) := hN
        have RN : Hid (ReadsN wr (V.getD kn nv0).val N) := by rw [← hN]; exact (hrd kn hk50).reads
        rw [hN] at ev
        obtain ⟨t0, t1, t2, t3⟩ := cellsN_get V kn (by omega)
        simp only [Value.agg.injEq, Array.mk.injEq, List.cons.injEq, Value.bool.injEq, and_true] at ev
        obtain ⟨ev0, ev1, ev2, ev3⟩ := ev
        obtain ⟨A, hA⟩ : ∃ A, N.A = A := ⟨_, rfl⟩
        obtain ⟨l1, hl1⟩ : ∃ l, N.P.length = l := ⟨_, rfl⟩
        obtain ⟨l2, hl2⟩ : ∃ l, N.L.length = l := ⟨_, rfl⟩
        obtain ⟨l3, hl3⟩ : ∃ l, N.K.length = l := ⟨_, rfl⟩
        rw [hA] at ev0
        rw [hl1] at ev1
        rw [hl2] at ev2
        rw [hl3] at ev3
        rw [ev0] at t0
        rw [ev1] at t1
        rw [ev2] at t2
        rw [ev3] at t3
        have RN2 : Hid (ReadsN wr (.agg #[.bool A, .slice b1 l1 d1, .slice b2 l2 d2, .slice b3 l3 d3]) N) := by
          have h9 := RN.out
          unfold NV.val at h9
          rw [ev0, ev1, ev2, ev3] at h9
          exact h9
        have s0 := (hbx _ _ t0).1
        have s1 := (hbx _ _ t1).1
        have s2 := (hbx _ _ t2).1
        have s3 := (hbx _ _ t3).1
        obtain ⟨y6, _⟩ := x6.out 0 _ rfl
        clear hN hA hl1 hl2 hl3 ev0 ev1 ev2 ev3 t0 t1 t2 t3 hrd hbx RN hgl hl50 hpg
        go_wp2_with fail
        refine (l03Free _ N _ RN2.out).mono ?_
        obtain ⟨fb, hfb⟩ : ∃ fb, freeB N = fb := ⟨_, rfl⟩
        have FB : Hid (freeB (H.getD kn nm0) = fb) := by show _ = _; rw [HN.out]; exact hfb
        rw [hfb]
        clear hfb
        rintro e w3 ⟨rfl, hb3⟩
        have LA3 : Hid (LoadAt G L gk w3 gN B6 g o c ((kn : Int) :: T) H) := la.out.below hb3
        have B3 : Hid (Below w.heap.size w w3) := hb.out.trans (hb3.mono hb.out.size)
        have Z0 : Hid (Box w3 w.heap.size [.slice a1 n1 c1, .slice a2 n2 c2, .bool AA, .slice a3 n3 c3]) := x0.out.below hb3
        have Z1 : Hid (Box w3 (w.heap.size + 1) [.int .i64 gG, .int .i64 rR, .slice sa k0 sc]) := x1.out.below hb3
        have Z2 : Hid (Box w3 (w.heap.size + 1 + 1) [.slice none 0 0]) := x2.out.below hb3
        have Z6 : Hid (Box w3 B6 [.slice (some ⟨gN, 0, none⟩) 50 cN]) := x6.out.below hb3
        have EC3 : Hid (cutP (some ⟨g, o, none⟩) c 1 1 = some ⟨g, o', none⟩ ∧ OffI w3 g o' (c - 1) T) := ⟨EC.out.1, EC.out.2.below hb3⟩
        clear hb3 s0 s1 s2 s3 y6 q0 la hb x0 x1 x2 x6 EC RN2
        cases fb with
        | false =>
          have LP : Hid (LoadAt G L (gk - 1) w3 gN B6 g o' (c - 1) T H ∧ gk - 1 < gk) := by
            obtain ⟨o9, e9, h9⟩ := LA3.out.pass (.inr FB.out)
            rw [EC3.out.1] at e9
            cases e9
            exact h9
          clear LA3
          go_wp2_with fail
          go_roundg (gk - 1)
          case measure => exact LP.out.2
          case rel => exact ⟨g, o', c - 1, T, H, by rw [MT.out.1], LP.out.1, B3, Z0, Z1, Z2, Z6⟩
        | true =>
          have HR2 : Hid (∀ W, Below w.heap.size w W → Calls Tryz.prog 80 #[.agg #[.slice a1 n1 c1, .slice a2 n2 c2, .bool AA, .slice a3 n3 c3], .int .i64 (2 + (kn : Int))] W fun e w' => e = .returned (.string (lastOr (byS D.C (2 + kn)) (D.S.getD (2 + kn) e0))) ∧ Below W.heap.size W w') := fun W hW => by
            have h9 := l02Read _ D (2 + kn) W HS.out.1 (by rw [HS.out.2.1]; omega) HS.out.2.2.1 (HD.out.below hW)
            rw [show ((2 + kn : Nat) : Int) = 2 + (kn : Int) from by omega] at h9
            exact h9
          obtain ⟨bs, hbs⟩ : ∃ bs, lastOr (byS D.C (2 + kn)) (D.S.getD (2 + kn) e0) = bs := ⟨_, rfl⟩
          rw [hbs] at HR2
          have GB : Hid (G kn = nodeR (bytesOf bs)) := by show _ = _; rw [← EG.out, ← hbs]; rfl
          have SB : Hid (bs.size ≤ 420) := by rw [← hbs]; exact HS.out.2.2.2 (2 + kn) (by omega)
          clear hbs
          obtain ⟨y0, _⟩ := Z0.out 0 _ rfl
          obtain ⟨y1, _⟩ := Z0.out 1 _ rfl
          obtain ⟨y2, _⟩ := Z0.out 2 _ rfl
          obtain ⟨y3, _⟩ := Z0.out 3 _ rfl
          go_wp2_with fail
          refine (HR2.out _ B3.out).mono ?_
          rintro e w4 ⟨rfl, hb4⟩
          have LA4 : Hid (LoadAt G L gk w4 gN B6 g o c ((kn : Int) :: T) H) := LA3.out.below hb4
          have B4 : Hid (Below w.heap.size w w4) := B3.out.trans (hb4.mono B3.out.size)
          have Y0 : Hid (Box w4 w.heap.size [.slice a1 n1 c1, .slice a2 n2 c2, .bool AA, .slice a3 n3 c3]) := Z0.out.below hb4
          have Y1 : Hid (Box w4 (w.heap.size + 1) [.int .i64 gG, .int .i64 rR, .slice sa k0 sc]) := Z1.out.below hb4
          have Y2 : Hid (Box w4 (w.heap.size + 1 + 1) [.slice none 0 0]) := Z2.out.below hb4
          have Y6 : Hid (Box w4 B6 [.slice (some ⟨gN, 0, none⟩) 50 cN]) := Z6.out.below hb4
          have EC4 : Hid (OffI w4 g o' (c - 1) T) := EC3.out.2.below hb4
          clear hb4 y0 y1 y2 y3 HR2 LA3 B3 Z0 Z1 Z2 Z6 EC3
          go_wp2_with fail
          refine (l03Read bs _ (by have := SB.out; omega)).mono ?_
          rintro e w5 ⟨hcase, hb5⟩
          have LA5 : Hid (LoadAt G L gk w5 gN B6 g o c ((kn : Int) :: T) H) := LA4.out.below hb5
          have B5 : Hid (Below w.heap.size w w5) := B4.out.trans (hb5.mono B4.out.size)
          have Z0 : Hid (Box w5 w.heap.size [.slice a1 n1 c1, .slice a2 n2 c2, .bool AA, .slice a3 n3 c3]) := Y0.out.below hb5
          have Z1 : Hid (Box w5 (w.heap.size + 1) [.int .i64 gG, .int .i64 rR, .slice sa k0 sc]) := Y1.out.below hb5
          have Z2 : Hid (Box w5 (w.heap.size + 1 + 1) [.slice none 0 0]) := Y2.out.below hb5
          have Z6 : Hid (Box w5 B6 [.slice (some ⟨gN, 0, none⟩) 50 cN]) := Y6.out.below hb5
          have EC5 : Hid (OffI w5 g o' (c - 1) T) := EC4.out.below hb5
          have S45 : Hid (w4.heap.size ≤ w5.heap.size) := hb5.size
          clear hb5 B4 Y0 Y1 Y2 Y6 EC4
          rcases hcase with ⟨hno, qA, q1, k1, r1, q2, k2, r2, q3, k3, r3, rfl⟩ | ⟨E, u, hyes, rfl, hown⟩
          · have F : Hid (loadF G (250 + L.length) L freshH = none) := by
              show _ = _
              have hf := LA5.out.fuel
              rw [List.length_cons] at hf
              rw [← LA5.out.same]
              obtain ⟨g9, rfl⟩ : ∃ g9, gk = g9 + 1 := ⟨gk - 1, by omega⟩
              exact load_bad (by omega) FB.out (by rw [Int.toNat_natCast, GB.out]; exact hno)
            have HX2 : Hid (Box (w5.alloc (.cells #[.bool qA, .slice q1 k1 r1, .slice q2 k2 r2, .slice q3 k3 r3] 137)) (w.heap.size + 1 + 1) [.slice none 0 0]) := Z2.out.old _
            have HX6 : Hid (Box (w5.alloc (.cells #[.bool qA, .slice q1 k1 r1, .slice q2 k2 r2, .slice q3 k3 r3] 137)) B6 [.slice (some ⟨gN, 0, none⟩) 50 cN]) := Z6.out.old _
            obtain ⟨y2, f2⟩ := HX2.out 0 _ rfl
            obtain ⟨y6, _⟩ := HX6.out 0 _ rfl
            obtain ⟨r0, _⟩ := (HX2.out.set 0 (.slice (some ⟨gN, 0, none⟩) 50 cN)) 0 _ rfl
            have BF : Hid (Below w.heap.size w ((w5.alloc (.cells #[.bool qA, .slice q1 k1 r1, .slice q2 k2 r2, .slice q3 k3 r3] 137)).setCell ⟨w.heap.size + 1 + 1, 0, none⟩ (.slice (some ⟨gN, 0, none⟩) 50 cN))) := Below.setCell (B5.out.alloc B5.out.size _) (by dsimp only; omega) _
            clear LA5 B5 Z0 Z1 Z2 Z6 EC5 hno
            dsimp only
            go_wp2_with fail
            exact bodyPost_ret (v := .tuple #[.agg #[.slice (some ⟨gN, 0, none⟩) 50 cN], .bool false]) (by simp [results, Tryz.results36, go_sem, r0]) rfl ⟨_, _, rfl, ⟨_, _, rfl, .inr ⟨rfl, .inl F.out⟩⟩, BF.out⟩
          · obtain ⟨b1, d1, b2, d2, b3, d3, rfl⟩ := hown.lit
            have GE : Hid (G kn = some E) := GB.out.trans hyes
            have EF : Hid (freeB E = false ∧ E.K.length ≤ 4 ∧ ∀ k ∈ E.K, pageB k = true) := nodeR_facts hyes
            have LT : Hid (g < w4.heap.size ∧ gN < w4.heap.size) := ⟨LA4.out.off.2.2.1, LA4.out.heap.2.1⟩
            have RX : Hid (ReadsX w5 gN g (.agg #[.bool E.A, .slice b1 E.P.length d1, .slice b2 E.L.length d2, .slice b3 E.K.length d3]) E) := hown.readsX LT.out.2 LT.out.1
            obtain ⟨A', hA⟩ : ∃ A, E.A = A := ⟨_, rfl⟩
            obtain ⟨l1, hl1⟩ : ∃ l, E.P.length = l := ⟨_, rfl⟩
            obtain ⟨l2, hl2⟩ : ∃ l, E.L.length = l := ⟨_, rfl⟩
            obtain ⟨l3, hl3⟩ : ∃ l, E.K.length = l := ⟨_, rfl⟩
            rw [hA, hl1, hl2, hl3] at RX
            rw [hA, hl1, hl2, hl3]
            have NK : Hid (E.K.length = l3 ∧ l3 ≤ 4) := ⟨hl3, by rw [← hl3]; exact EF.out.2.1⟩
            clear hown hyes hA hl1 hl2 hl3 LA4
            obtain ⟨Wb, hWb⟩ : ∃ Wb, (((((w5.alloc (.cells #[.bool A', .slice b1 l1 d1, .slice b2 l2 d2, .slice b3 l3 d3] 137)).setCell ⟨gN, kn * 4, none⟩ (.bool A')).setCell ⟨gN, kn * 4 + 1, none⟩ (.slice b1 l1 d1)).setCell ⟨gN, kn * 4 + 2, none⟩ (.slice b2 l2 d2)).setCell ⟨gN, kn * 4 + 3, none⟩ (.slice b3 l3 d3)) = Wb := ⟨_, rfl⟩
            obtain ⟨r1, r2, r3, r4, r5, r6, r7, r8, u0, u1, u2, u3, ⟨x0, f0⟩, ⟨x1, f1⟩, ⟨x2, f2⟩, ⟨x3, f3⟩⟩ := write_facts LA5.out.heap hk50 RX.out EC5.out rfl hWb
            have BLT : Hid (gN < w5.heap.size ∧ g < w5.heap.size ∧ w.heap.size + 3 ≤ gN ∧ gN < B6 ∧ B6 < g) := ⟨LA5.out.heap.2.1, LA5.out.off.2.2.1, ZB.out.1, ZB.out.2, LA5.out.far⟩
            have HB5 : Hid (HeapAt Wb gN g (H.set kn E)) := r1
            have OB5 : Hid (OffI Wb g o' (c - 1) T) := r2
            have SR5 : Hid (Src Wb b3 (cellsI E.K)) := r3
            have SZ5 : Hid (Wb.heap.size = w5.heap.size + 1) := r8
            have Q0 : Hid (Box Wb w.heap.size [.slice a1 n1 c1, .slice a2 n2 c2, .bool AA, .slice a3 n3 c3]) := r4 _ _ (by have := BLT.out; omega) Z0.out
            have Q1 : Hid (Box Wb (w.heap.size + 1) [.int .i64 gG, .int .i64 rR, .slice sa k0 sc]) := r4 _ _ (by have := BLT.out; omega) Z1.out
            have Q2 : Hid (Box Wb (w.heap.size + 1 + 1) [.slice none 0 0]) := r4 _ _ (by have := BLT.out; omega) Z2.out
            have Q6 : Hid (Box Wb B6 [.slice (some ⟨gN, 0, none⟩) 50 cN]) := r4 _ _ (by have := BLT.out; omega) Z6.out
            have BB : Hid (Below w.heap.size w Wb) := r5 _ _ B5.out (by have := BLT.out; omega) B5.out.size
            have y1 := off_other (x := .bool A') x1 (j := kn * 4) (by omega)
            have y2 := off_other (x := .slice b1 l1 d1) (off_other (x := .bool A') x2 (j := kn * 4) (by omega)) (j := kn * 4 + 1) (by omega)
            have y3 := off_other (x := .slice b2 l2 d2) (off_other (x := .slice b1 l1 d1) (off_other (x := .bool A') x3 (j := kn * 4) (by omega)) (j := kn * 4 + 1) (by omega)) (j := kn * 4 + 2) (by omega)
            obtain ⟨z6, _⟩ := (Z6.out.old (.cells #[.bool A', .slice b1 l1 d1, .slice b2 l2 d2, .slice b3 l3 d3] 137)) 0 _ rfl
            obtain ⟨z0, _⟩ := r6 0 _ rfl
            obtain ⟨z1, _⟩ := r6 1 _ rfl
            obtain ⟨z2, _⟩ := r6 2 _ rfl
            obtain ⟨z3, _⟩ := r6 3 _ rfl
            have HW : Hid ((((((w5.alloc (.cells #[.bool A', .slice b1 l1 d1, .slice b2 l2 d2, .slice b3 l3 d3] 137)).setCell ⟨gN, kn * 4, none⟩ (.bool A')).setCell ⟨gN, kn * 4 + 1, none⟩ (.slice b1 l1 d1)).setCell ⟨gN, kn * 4 + 2, none⟩ (.slice b2 l2 d2)).setCell ⟨gN, kn * 4 + 3, none⟩ (.slice b3 l3 d3)) = Wb) := hWb
            have V3 : Hid (Wb.cell? ⟨w5.heap.size, 3, none⟩ = some (.slice b3 l3 d3)) := r7
            have v3 := r7
            rw [← hWb] at v3
            have BND : Hid (m - 1 + l3 ≤ 100000) := by
              have h1 := LA5.out.fuel
              have h2 := LA5.out.top
              have h3 := LL.out.2
              have h4 := NK.out.2
              rw [List.length_cons] at h1
              have h5 := MT.out.1
              show _ ≤ _
              omega
            clear r1 r2 r3 r4 r5 r6 r7 r8 hWb RX Z0 Z1 Z2 Z6 EC5 B5
            dsimp only
            go_upto_region 11 with (fail)
            rw [HW.out]
            clear v3 y1 y2 y3 x0 x1 x2 x3 f0 f1 f2 f3 z0 z1 z2 z3 z6 HW
            have v3 := V3.out
            go_wp2_with (at_builtin; refine wpList_append_off _ rfl _ _ 24 rfl Tryz.underlying24 infoI g o' (c - 1) (m - 1) T E.K MT.out.1 rfl OB5.out b3 l3 d3 rfl NK.out.1 SR5.out BND.out ?_; rintro g' o2 c' w6 ho6 hg6 hc6)
            have TU : Hid (Turned g (g + 1) Wb w6) := Turned.of_grown hg6 (fun k e => by cases e; omega)
            have SZ6 : Hid (Wb.heap.size ≤ w6.heap.size) := hg6.size
            have B6' : Hid (Below w.heap.size w w6) := Below.turned BB.out TU.out (Nat.le_refl _) (by have := BLT.out; omega)
            have P0 : Hid (Box w6 w.heap.size [.slice a1 n1 c1, .slice a2 n2 c2, .bool AA, .slice a3 n3 c3]) := Q0.out.turned TU.out (by have := BLT.out; omega)
            have P1 : Hid (Box w6 (w.heap.size + 1) [.int .i64 gG, .int .i64 rR, .slice sa k0 sc]) := Q1.out.turned TU.out (by have := BLT.out; omega)
            have P2 : Hid (Box w6 (w.heap.size + 1 + 1) [.slice none 0 0]) := Q2.out.turned TU.out (by have := BLT.out; omega)
            have P6 : Hid (Box w6 B6 [.slice (some ⟨gN, 0, none⟩) 50 cN]) := Q6.out.turned TU.out (by have := BLT.out; omega)
            have H6 : Hid (HeapAt w6 gN g' (H.set kn E)) := HB5.out.kept hg6.size (by rcases hc6 with h | h; exact .inl h; exact .inr (by omega)) (fun k hk hne => hg6.block k hk (fun e => by cases e; exact hne rfl))
            have LP : Hid (LoadAt G L (gk - 1) w6 gN B6 g' o2 c' (T ++ E.K) (H.set kn E)) := by
              have h9 := LA5.out.take (w' := w6) (g' := g') (o' := o2) (c' := c') HK.out (by rw [Int.toNat_natCast]; exact FB.out) (by rw [Int.toNat_natCast]; exact GE.out) EF.out ho6 (by rw [Int.toNat_natCast]; exact H6.out) (by have := BLT.out; have := SZ5.out; rcases hc6 with h | h <;> omega)
              rw [Int.toNat_natCast] at h9
              exact h9
            have LF : Hid (gk - 1 < gk) := by have h1 := LA5.out.fuel; rw [List.length_cons] at h1; show _ < _; omega
            have TL : Hid ((T ++ E.K).length = m - 1 + l3) := by show _ = _; rw [List.length_append, MT.out.1, NK.out.1]
            clear TU hg6 ho6 hc6 H6 LA5 BB Q0 Q1 Q2 Q6 HB5 OB5 SR5 v3
            go_wp2_with fail
            go_roundg (gk - 1)
            case measure => exact LF.out
            case rel => exact ⟨g', o2, c', T ++ E.K, H.set kn E, by rw [TL.out], LP, B6', P0, P1, P2, P6⟩
end Go.Proofs.YtnnimocaanofjaaGreatDoor
