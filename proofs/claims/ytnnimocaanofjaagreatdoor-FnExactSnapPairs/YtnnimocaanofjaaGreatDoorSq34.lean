/-
  Texts of the store, brought together: Lodm. By an AI agent.
-/
import Derived.Test.YtnnimocaanofjaaGreatDoorSq31
import Derived.Deep.AppendSrc
import Derived.Laws.IdiomCopy
namespace Go.Proofs.YtnnimocaanofjaaGreatDoor
open Go.ChangeShapes Go.WideShapes Go.ChangeAt Go.RowKit Go.Deep
set_option linter.unusedVariables false
set_option linter.unusedSimpArgs false
set_option maxRecDepth 100000
def OffI (w : World) (g o c : Nat) (T : List Int) : Prop :=
  T.length ≤ c ∧ c ≤ maxLen ∧ g < w.heap.size ∧ (∀ j, j < T.length → w.cell? ⟨g, o + j, none⟩ = some (.int .i64 (T.getD j 0))) ∧ ∀ j, j < c → (w.cell? ⟨g, o + j, none⟩).isSome = true ∧ w.frozen? ⟨g, o + j, none⟩ = false
theorem OffI.of_own {w : World} {base g n c : Nat} {T : List Int} (h : w.ownsRow base 3 1 (.slice (some ⟨g, 0, none⟩) n c) n (cellsI T)) : OffI w g 0 c T := by
  have hc := own_capx h
  have hl : T.length = n := by have := h.1; rw [cellsI_length] at this; omega
  have hlt := (h.lt g rfl).2
  refine ⟨by omega, hc.2, hlt, fun j hj => ?_, fun j hj => ?_⟩
  · have h1 := (own_cell h (i := j) (by rw [cellsI_length]; exact hj)).1
    rw [getD_some (cellsI_get T j hj)] at h1
    rw [Nat.zero_add]; exact h1
  · obtain ⟨_, ⟨hv, _⟩ | ⟨g', cap', cur, hv, hb, hg, hc1, hc2, hs, ht⟩⟩ := h
    · cases hv
    · cases hv
      rw [Nat.zero_add]
      refine ⟨?_, frozen_of_row w g j cur _ hg⟩
      rw [cell_of_row w g j cur _ _ hg, Array.getElem?_eq_getElem (by omega)]
      rfl
theorem OffI.block {w w' : World} {g o c : Nat} {T : List Int} (h : OffI w g o c T) (hb : w'.heap[g]? = w.heap[g]?) (hs : w.heap.size ≤ w'.heap.size) : OffI w' g o c T := by
  obtain ⟨h1, h2, h3, h4, h5⟩ := h
  refine ⟨h1, h2, by omega, fun j hj => ?_, fun j hj => ?_⟩
  · rw [World.cell?_of_block (w := w) (a := ⟨g, o + j, none⟩) hb]; exact h4 j hj
  · rw [World.cell?_of_block (w := w) (a := ⟨g, o + j, none⟩) hb, World.frozen?_of_block (w := w) (a := ⟨g, o + j, none⟩) hb]; exact h5 j hj
theorem OffI.below {w w' : World} {g o c : Nat} {T : List Int} (h : OffI w g o c T) (hb : Below w.heap.size w w') : OffI w' g o c T := h.block (hb.block g h.2.2.1) hb.size
theorem OffI.head {w : World} {g o c : Nat} {k : Int} {T : List Int} (h : OffI w g o c (k :: T)) : w.cell? ⟨g, o, none⟩ = some (.int .i64 k) := h.2.2.2.1 0 (by simp)
theorem OffI.src {w : World} {g o c : Nat} {T : List Int} (h : OffI w g o c T) : Src w (some ⟨g, o, none⟩) (cellsI T) := by
  refine .inr ⟨g, o, rfl, fun j hj => ?_⟩
  rw [cellsI_length] at hj
  rw [getD_some (cellsI_get T j hj)]
  exact h.2.2.2.1 j hj
theorem OffI.tail {w : World} {g o c : Nat} {k : Int} {T : List Int} (h : OffI w g o c (k :: T)) : ∃ o', cutP (some ⟨g, o, none⟩) c 1 1 = some ⟨g, o', none⟩ ∧ OffI w g o' (c - 1) T := by
  obtain ⟨h1, h2, h3, h4, h5⟩ := h
  rw [List.length_cons] at h1 h4
  by_cases hc : c = 1
  · subst hc
    have hT : T = [] := List.length_eq_zero_iff.1 (by omega)
    subst hT
    exact ⟨o, by simp [cutP], by simp, by omega, h3, fun j hj => by simp at hj, fun j hj => absurd hj (by omega)⟩
  · refine ⟨o + 1, by simp [cutP, hc, Addr.add], by omega, by omega, h3, fun j hj => ?_, fun j hj => ?_⟩
    · have := h4 (j + 1) (by omega)
      rw [show o + 1 + j = o + (j + 1) by omega, this]
      rfl
    · have := h5 (j + 1) (by omega)
      rw [show o + 1 + j = o + (j + 1) by omega]
      exact this
theorem getD_appL (T K : List Int) (j : Nat) (h : j < T.length) : (T ++ K).getD j 0 = T.getD j 0 := by
  rw [List.getD_eq_getElem?_getD, List.getElem?_append_left h, ← List.getD_eq_getElem?_getD]
theorem getD_appR (T K : List Int) (j : Nat) (h : T.length ≤ j) : (T ++ K).getD j 0 = K.getD (j - T.length) 0 := by
  rw [List.getD_eq_getElem?_getD, List.getElem?_append_right h, ← List.getD_eq_getElem?_getD]
theorem heap_setCells {P g : Nat} (hne : g ≠ P) : ∀ (zs : List Value) (o : Nat) (w : World), (w.setCells P o zs).heap[g]? = w.heap[g]?
  | [], o, w => rfl
  | z :: zs, o, w => (heap_setCells hne zs (o + 1) (w.setCell ⟨P, o, none⟩ z)).trans (Below.heap_setCell _ _ _ _ (fun e => hne e))
theorem gb_setCells {P : Nat} : ∀ (zs : List Value) (o : Nat) (w : World), w.grownBy (w.setCells P o zs) (some P)
  | [], o, w => gb_refl _ _
  | z :: zs, o, w => by
    have h1 := gb_set (gb_refl w (some P)) o z
    have h2 := gb_setCells (P := P) zs (o + 1) (w.setCell ⟨P, o, none⟩ z)
    exact ⟨h2.os.trans h1.os, h2.tape.trans h1.tape, h2.output.trans h1.output, Nat.le_trans h1.size h2.size, fun k hk hr => (h2.block k (Nat.lt_of_lt_of_le hk h1.size) hr).trans (h1.block k hk hr)⟩
theorem go_src {P : Program} {t : TypeId} {e : TypeId} (ht : P.underlying t = some (.slice e)) {w : World} {ad : Option Addr} {K : List Int} {m cc : Nat} (hm : K.length = m) (hs : Src w ad (cellsI K)) : Go.Src P 1 t (.slice ad m cc) m (cellsI K) w := by
  have h1 := cellsI_one K
  rcases hs with h0 | ⟨b, o, rfl, hc⟩
  · have hK : K = [] := by
      have := congrArg List.length h0
      rw [cellsI_length] at this
      exact List.length_eq_zero_iff.1 this
    subst hK
    simp only [List.length_nil] at hm
    subst hm
    cases ad with
    | none => exact Go.Src.ofNil w ht cc
    | some x => exact Go.Src.ofSlice w ht x 0 cc [] (by simp) (fun j u h => by simp at h) (fun u h => by cases h)
  · refine Go.Src.ofSlice w ht _ m cc (cellsI K) (by rw [cellsI_length]; omega) (fun j u hu => ?_) h1
    have hj : j < (cellsI K).length := (List.getElem?_eq_some_iff.1 hu).1
    have := hc j hj
    rw [getD_some hu] at this
    unfold Addr.add
    split
    · rename_i h0; subst h0; exact this
    · exact this
theorem off_append {P : Program} {t ty e : TypeId} (ht : P.underlying t = some (.slice 3)) (hinfo : (P.info? 3).map (fun i => (i.zero, i.size, i.bytes)) = some (some (.int .i64 0), 1, 8)) (w : World) (g o c : Nat) (T K : List Int) (h : OffI w g o c T) (ad : Option Addr) (m cc : Nat) (hm : K.length = m) (hs : Src w ad (cellsI K)) (hl : T.length + m ≤ 100000) :
    ∃ g' o' c' w', (Builtin.append_ #[t, t] ty #[.slice (some ⟨g, o, none⟩) T.length c, .slice ad m cc]).run P w = .ok (.slice (some ⟨g', o', none⟩) (T.length + m) c') w' ∧ OffI w' g' o' c' (T ++ K) ∧ w.grownBy w' (some g) ∧ (g' = g ∨ g' = w.heap.size) := by
  obtain ⟨i, hi, hzz⟩ := Option.map_eq_some_iff.1 hinfo
  simp only [Prod.mk.injEq] at hzz
  obtain ⟨hz, hsize, hby⟩ := hzz
  have hgs := go_src (P := P) ht (cc := cc) hm hs
  obtain ⟨h1, h2, h3, h4, h5⟩ := h
  have hKl := cellsI_length K
  by_cases hroom : T.length + m ≤ c
  · have hrun := run_append_room_src (P := P) w t t ty 3 i ht hi g o T.length c (.slice ad m cc) m (cellsI K) (by rw [hsize]; exact hgs) hroom
      (fun j hj => by rw [hsize, Nat.mul_one, Nat.add_assoc]; exact (h5 _ (by omega)).1) (fun j hj => by rw [hsize, Nat.mul_one, Nat.add_assoc]; exact (h5 _ (by omega)).2)
    rw [hsize, Nat.mul_one] at hrun
    refine ⟨g, o, c, _, hrun, ⟨by rw [List.length_append]; omega, h2, by rw [size_setCells]; exact h3, fun j hj => ?_, fun j hj => ?_⟩, gb_setCells _ _ _, .inl rfl⟩
    · rw [List.length_append] at hj
      by_cases hjT : j < T.length
      · rw [World.cell?_setCells_out g _ _ _ _ (fun _ _ => .inl (by dsimp only; omega)), h4 j hjT, getD_appL T K j hjT]
      · have := World.cell?_setCells_in g (cellsI K) (o + T.length) w (fun j hj => by rw [Nat.add_assoc]; exact (h5 _ (by omega)).1) (j - T.length) (by omega)
        rw [show o + T.length + (j - T.length) = o + j by omega] at this
        rw [this, getD_appR T K j (by omega)]
        have h9 := cellsI_get K (j - T.length) (by omega)
        rw [List.getElem?_eq_getElem (by omega)] at h9
        exact h9
    · rw [World.frozen?_setCells]
      refine ⟨?_, (h5 j hj).2⟩
      by_cases hin : T.length ≤ j ∧ j < T.length + m
      · have := World.cell?_setCells_in g (cellsI K) (o + T.length) w (fun j hj => by rw [Nat.add_assoc]; exact (h5 _ (by omega)).1) (j - T.length) (by omega)
        rw [show o + T.length + (j - T.length) = o + j by omega] at this
        rw [this]; rfl
      · rw [World.cell?_setCells_out g _ _ _ _ (fun _ _ => by dsimp only; omega)]
        exact (h5 j hj).1
  · have hold : (Builtin.firstCells i.size T.length (.slice (some ⟨g, o, none⟩) T.length c)).run P w.drew = .ok (cellsI T).toArray w.drew := by
      rw [hsize]
      have h9 := (go_src (P := P) ht (cc := c) (w := w.drew) (K := T) (ad := some ⟨g, o, none⟩) rfl (OffI.src ⟨h1, h2, h3, h4, h5⟩)).cells
      exact h9
    have hrun := run_append_grow_src (P := P) w t t ty 3 i (.int .i64 0) ht hi hz (some ⟨g, o, none⟩) T.length c (cellsI T) hold (.slice ad m cc) m (cellsI K) (by rw [hsize]; exact hgs) (by omega) (by omega) (growslice_fits (by omega) (by rw [hby]; omega))
    have hge := grownCap_ge w (T.length + m) c 3
    have hcm : grownCap w (T.length + m) c 3 ≤ maxLen := grownCap_le_maxLen w (T.length + m) c 3 (by unfold maxLen; omega)
    have hTl := cellsI_length T
    refine ⟨w.heap.size, 0, grownCap w (T.length + m) c 3, _, hrun, ?_, ⟨rfl, rfl, rfl, by simp, fun k hk _ => heap_alloc_old w.drew _ hk⟩, .inr rfl⟩
    refine OffI.of_own (base := w.heap.size) (n := T.length + m) ⟨by rw [cellsI_length, List.length_append]; omega, .inr ⟨w.heap.size, _, _, rfl, Nat.le_refl _, heap_alloc_new w.drew _, hge, hcm, ?_, ?_⟩⟩
    · simp only [Array.size_append, List.size_toArray, size_zeroCells, List.length_append]
      show (cellsI T).length + (cellsI K).length + _ * 1 = _
      omega
    · simp only [Array.toList_append]
      rw [cellsI_append]
      refine List.take_left' ?_
      simp only [List.length_append]
      omega
theorem wpList_append_off {P : Program} (w : World) {ops : Array Oper} {rest : List Oper} {o : Oper} {a : Act} {Q : Exit → Act → World → Prop} (hgd : o.guard = none) (s x : Operand) (t : TypeId)
    (ho : o.op = .call { callee := .builtin .append, args := #[s, x], argTypes := #[t, t] })
    (ht : P.underlying t = some (.slice 3)) (hinfo : (P.info? 3).map (fun i => (i.zero, i.size, i.bytes)) = some (some (.int .i64 0), 1, 8)) (g o0 c n : Nat) (T K : List Int) (hT : T.length = n) (hs : a.eval s = .slice (some ⟨g, o0, none⟩) n c) (hoff : OffI w g o0 c T)
    (ad : Option Addr) (m cc : Nat) (hx : a.eval x = .slice ad m cc) (hm : K.length = m) (hsrc : Src w ad (cellsI K)) (hl : n + m ≤ 100000)
    (h : ∀ g' o' c' w', OffI w' g' o' c' (T ++ K) → w.grownBy w' (some g) → (g' = g ∨ g' = w.heap.size) → wpList P ops Q rest (a.put o.dst (.slice (some ⟨g', o', none⟩) (n + m) c')) w') : wpList P ops Q (o :: rest) a w :=
  wpList_plain hgd fun _ hK => by
    subst hT
    obtain ⟨g', o', c', w', hr, h2, h3, h4⟩ := off_append (P := P) (t := t) (ty := o.type) (e := 3) ht hinfo w g o0 c T K hoff ad m cc hm hsrc hl
    unfold Oper.wp execOp
    simp only [ho, resolve, invoke, builtin, Sem.run_bind, Sem.run_pure, Result.andThen_ok, List.map_toArray, List.map_cons, List.map_nil, hs, hx, hr]
    exact hK _ _ (h g' o' c' w' h2 h3 h4)
def ReadsX (w : World) (gN g : Nat) (v : Value) (D : NM) : Prop :=
  ∃ a1 c1 a2 c2 a3 c3, v = .agg #[.bool D.A, .slice a1 D.P.length c1, .slice a2 D.L.length c2, .slice a3 D.K.length c3] ∧ Src w a1 (cellsP D.P) ∧ Src w a2 (cellsS D.L) ∧ Src w a3 (cellsI D.K) ∧ ∀ x, (a1 = some x ∧ D.P ≠ [] ∨ a2 = some x ∧ D.L ≠ [] ∨ a3 = some x ∧ D.K ≠ []) → x.block < w.heap.size ∧ gN < x.block ∧ x.block ≠ g
theorem ReadsX.reads {w : World} {gN g : Nat} {v : Value} {D : NM} (h : ReadsX w gN g v D) : ReadsN w v D := by
  obtain ⟨a1, c1, a2, c2, a3, c3, e, s1, s2, s3, _⟩ := h
  exact ⟨a1, c1, a2, c2, a3, c3, e, s1, s2, s3⟩
theorem Src.kept {w w' : World} {a : Option Addr} {xs : List Value} (h : Src w a xs) (hk : ∀ x, a = some x → w'.heap[x.block]? = w.heap[x.block]?) : Src w' a xs := by
  rcases h with h | ⟨b, o, rfl, hc⟩
  · exact .inl h
  · exact .inr ⟨b, o, rfl, fun j hj => (World.cell?_of_block (w := w) (a := ⟨b, o + j, none⟩) (hk ⟨b, o, none⟩ rfl)).trans (hc j hj)⟩
theorem ReadsX.kept {w w' : World} {gN g g' : Nat} {v : Value} {D : NM} (h : ReadsX w gN g v D) (hs : w.heap.size ≤ w'.heap.size) (hg : g' = g ∨ w.heap.size ≤ g') (hk : ∀ k, k < w.heap.size → gN < k → k ≠ g → w'.heap[k]? = w.heap[k]?) : ReadsX w' gN g' v D := by
  obtain ⟨a1, c1, a2, c2, a3, c3, e, s1, s2, s3, hx⟩ := h
  have key : ∀ x, (a1 = some x ∧ D.P ≠ [] ∨ a2 = some x ∧ D.L ≠ [] ∨ a3 = some x ∧ D.K ≠ []) → w'.heap[x.block]? = w.heap[x.block]? := fun x h => hk _ (hx x h).1 (hx x h).2.1 (hx x h).2.2
  have k1 : Src w' a1 (cellsP D.P) := by
    by_cases h0 : D.P = []
    · rw [h0]; exact .inl rfl
    · exact s1.kept (fun x h => key x (.inl ⟨h, h0⟩))
  have k2 : Src w' a2 (cellsS D.L) := by
    by_cases h0 : D.L = []
    · rw [h0]; exact .inl rfl
    · exact s2.kept (fun x h => key x (.inr (.inl ⟨h, h0⟩)))
  have k3 : Src w' a3 (cellsI D.K) := by
    by_cases h0 : D.K = []
    · rw [h0]; exact .inl rfl
    · exact s3.kept (fun x h => key x (.inr (.inr ⟨h, h0⟩)))
  refine ⟨a1, c1, a2, c2, a3, c3, e, k1, k2, k3, fun x h => ?_⟩
  obtain ⟨t1, t2, t3⟩ := hx x h
  refine ⟨by omega, t2, ?_⟩
  rcases hg with rfl | hg
  · exact t3
  · omega
theorem OwnsN.readsX {w : World} {lo hi gN g : Nat} {v : Value} {D : NM} (h : OwnsN w lo hi v D) (h1 : gN < lo) (h2 : g < lo) : ReadsX w gN g v D := by
  obtain ⟨v1, v2, v3, rfl, ⟨o1, _⟩, ⟨o2, _⟩, o3, _⟩ := h
  obtain ⟨a1, c1, rfl, s1, b1⟩ := own_src o1
  obtain ⟨a2, c2, rfl, s2, b2⟩ := own_src o2
  obtain ⟨a3, c3, rfl, s3, b3⟩ := own_src o3
  refine ⟨a1, c1, a2, c2, a3, c3, rfl, s1, s2, s3, fun x hx => ?_⟩
  rcases hx with ⟨hx, _⟩ | ⟨hx, _⟩ | ⟨hx, _⟩
  · have := b1 x hx; exact ⟨this.2, by omega, by omega⟩
  · have := b2 x hx; exact ⟨this.2, by omega, by omega⟩
  · have := b3 x hx; exact ⟨this.2, by omega, by omega⟩
def HeapAt (w : World) (gN g : Nat) (H : List NM) : Prop :=
  gN ≠ g ∧ gN < w.heap.size ∧ H.length = 50 ∧ ∃ V : List NV, V.length = 50 ∧ Box w gN (cellsN V) ∧ ∀ i, i < 50 → ReadsX w gN g (V.getD i nv0).val (H.getD i nm0)
theorem HeapAt.kept {w w' : World} {gN g g' : Nat} {H : List NM} (h : HeapAt w gN g H) (hs : w.heap.size ≤ w'.heap.size) (hg : g' = g ∨ w.heap.size ≤ g') (hk : ∀ k, k < w.heap.size → k ≠ g → w'.heap[k]? = w.heap[k]?) : HeapAt w' gN g' H := by
  obtain ⟨h1, h2, h3, V, h4, h5, h6⟩ := h
  refine ⟨?_, by omega, h3, V, h4, fun j u hu => ?_, fun i hi => (h6 i hi).kept hs hg (fun k k1 _ k3 => hk k k1 k3)⟩
  · rcases hg with rfl | hg
    · exact h1
    · omega
  · obtain ⟨t1, t2⟩ := h5 j u hu
    have hbk := hk gN h2 h1
    exact ⟨(World.cell?_of_block (w := w) (a := ⟨gN, j, none⟩) hbk).trans t1, (World.frozen?_of_block (w := w) (a := ⟨gN, j, none⟩) hbk).trans t2⟩
theorem HeapAt.below {w w' : World} {gN g : Nat} {H : List NM} (h : HeapAt w gN g H) (hb : Below w.heap.size w w') : HeapAt w' gN g H := h.kept hb.size (.inl rfl) (fun k hk _ => hb.block k hk)
theorem HeapAt.reads {w : World} {gN g : Nat} {H : List NM} (h : HeapAt w gN g H) : ReadsHL w (some ⟨gN, 0, none⟩) H := by
  obtain ⟨h1, h2, h3, V, h4, h5, h6⟩ := h
  refine ⟨V, by omega, .inr ⟨gN, 0, rfl, fun j hj => ?_⟩, fun i hi => (h6 i (by omega)).reads⟩
  rw [Nat.zero_add]
  have h9 : (cellsN V)[j]? = some ((cellsN V).getD j undef) := by rw [List.getD_eq_getElem?_getD, List.getElem?_eq_getElem hj]; rfl
  exact (h5 j _ h9).1
theorem HeapAt.readsSet {w : World} {gN g b i : Nat} {H : List NM} (h : HeapAt w gN g H) (hb : b < gN) (u : Value) : ReadsHL (w.setCell ⟨b, i, none⟩ u) (some ⟨gN, 0, none⟩) H := by
  obtain ⟨h1, h2, h3, V, h4, h5, h6⟩ := h
  have hx : Box (w.setCell ⟨b, i, none⟩ u) gN (cellsN V) := h5.other _ (by dsimp only; omega) _
  refine ⟨V, by omega, .inr ⟨gN, 0, rfl, fun j hj => ?_⟩, fun q hq => ((h6 q (by omega)).kept (w' := w.setCell ⟨b, i, none⟩ u) (g' := g) (by simp) (.inl rfl) (fun k _ hk _ => Below.heap_setCell _ _ _ _ (fun e => by simp only at e; omega))).reads⟩
  rw [Nat.zero_add]
  have h9 : (cellsN V)[j]? = some ((cellsN V).getD j undef) := by rw [List.getD_eq_getElem?_getD, List.getElem?_eq_getElem hj]; rfl
  exact (hx j _ h9).1
theorem cellsN_set : ∀ (V : List NV) (k : Nat) (x : NV), ((((cellsN V).set (k * 4) (.bool x.A)).set (k * 4 + 1) x.v1).set (k * 4 + 2) x.v2).set (k * 4 + 3) x.v3 = cellsN (V.set k x)
  | [], k, x => by simp [cellsN]
  | y :: V, 0, x => rfl
  | y :: V, k + 1, x => by
    have ih := cellsN_set V k x
    have e1 : (k + 1) * 4 = k * 4 + 1 + 1 + 1 + 1 := by omega
    have e2 : cellsN (y :: V) = .bool y.A :: y.v1 :: y.v2 :: y.v3 :: cellsN V := rfl
    have e3 : cellsN ((y :: V).set (k + 1) x) = .bool y.A :: y.v1 :: y.v2 :: y.v3 :: cellsN (V.set k x) := rfl
    rw [e2, e1, e3, ← ih]
    rfl
theorem nvset_get (V : List NV) (k i : Nat) (x : NV) (hk : k < V.length) : (V.set k x).getD i nv0 = if k = i then x else V.getD i nv0 := by
  rw [List.getD_eq_getElem?_getD, List.getElem?_set]
  by_cases e : k = i
  · rw [if_pos e, if_pos hk, if_pos e]; rfl
  · rw [if_neg e, if_neg e, List.getD_eq_getElem?_getD]
abbrev W4o (w : World) (B o : Nat) (v0 v1 v2 v3 : Value) : World := (((w.setCell ⟨B, o, none⟩ v0).setCell ⟨B, o + 1, none⟩ v1).setCell ⟨B, o + 2, none⟩ v2).setCell ⟨B, o + 3, none⟩ v3
theorem HeapAt.set {w : World} {gN g k : Nat} {H : List NM} {D : NM} {A : Bool} {v1 v2 v3 : Value} (h : HeapAt w gN g H) (hk : k < 50) (hD : ReadsX w gN g (.agg #[.bool A, v1, v2, v3]) D) : HeapAt (W4o w gN (k * 4) (.bool A) v1 v2 v3) gN g (H.set k D) := by
  obtain ⟨h1, h2, h3, V, h4, h5, h6⟩ := h
  have hsz : (W4o w gN (k * 4) (.bool A) v1 v2 v3).heap.size = w.heap.size := by simp [W4o]
  have hbk : ∀ i, i < w.heap.size → gN < i → i ≠ g → (W4o w gN (k * 4) (.bool A) v1 v2 v3).heap[i]? = w.heap[i]? := fun i _ hi' _ => by
    have hi : i ≠ gN := by omega
    unfold W4o
    rw [Below.heap_setCell _ _ _ _ (fun e => hi e), Below.heap_setCell _ _ _ _ (fun e => hi e), Below.heap_setCell _ _ _ _ (fun e => hi e), Below.heap_setCell _ _ _ _ (fun e => hi e)]
  refine ⟨h1, by omega, by rw [List.length_set]; exact h3, V.set k ⟨A, v1, v2, v3⟩, by rw [List.length_set]; exact h4, ?_, fun i hi => ?_⟩
  · rw [← cellsN_set]
    exact (((h5.set (k * 4) _).set (k * 4 + 1) _).set (k * 4 + 2) _).set (k * 4 + 3) _
  · rw [nvset_get V k i _ (by omega), set_getN D (by omega)]
    by_cases e : k = i
    · rw [if_pos e, if_pos e]
      exact hD.kept (by omega) (.inl rfl) hbk
    · rw [if_neg e, if_neg e]
      exact (h6 i hi).kept (by omega) (.inl rfl) hbk
theorem ReadsX.empty {w : World} {gN g : Nat} {v : Value} (h : ReadsN w v nm0) : ReadsX w gN g v nm0 := by
  obtain ⟨a1, c1, a2, c2, a3, c3, e, s1, s2, s3⟩ := h
  exact ⟨a1, c1, a2, c2, a3, c3, e, s1, s2, s3, fun x hx => by rcases hx with ⟨_, h⟩ | ⟨_, h⟩ | ⟨_, h⟩ <;> exact absurd rfl h⟩
theorem HeapAt.fresh {w : World} {lo hi gN g c : Nat} (h : OwnsHL w lo hi (.slice (some ⟨gN, 0, none⟩) 50 c) 50 freshH) (hne : gN ≠ g) : HeapAt w gN g freshH := by
  obtain ⟨V, h1, h2, h3⟩ := h
  have hV : V.length = 50 := by rw [h3.len]; simp [freshH]
  have hr := h3.reads
  refine ⟨hne, (h1.lt gN rfl).2, by simp [freshH], V, hV, fun j u hu => own_at h1 hu, fun i hi => ?_⟩
  have h9 := hr i (by simp [freshH]; omega)
  have e9 : freshH.getD i nm0 = nm0 := by
    unfold freshH
    rw [List.getD_eq_getElem?_getD, List.getElem?_replicate]
    split <;> rfl
  rw [e9] at h9 ⊢
  exact ReadsX.empty h9
theorem nodeR_facts {B : List Nat} {D : NM} (h : nodeR B = some D) : freeB D = false ∧ D.K.length ≤ 4 ∧ ∀ k ∈ D.K, pageB k = true := by
  unfold nodeR at h
  split at h
  · cases hA : nodeA (bodyB B) with
    | none => rw [hA] at h; cases h
    | some E =>
      rw [hA] at h
      simp only at h
      split at h
      · cases h
      · rename_i hn
        cases h
        have hf : freeB D = false := by simpa using fun e => hn (.inl e)
        have ho : okB D = true := by
          cases ho : okB D with
          | true => rfl
          | false => exact absurd (.inr ho) hn
        refine ⟨hf, ?_⟩
        unfold okB at ho
        rw [hf, Bool.false_or, Bool.or_eq_true] at ho
        rcases ho with ho | ho
        · unfold leafB at ho
          rw [Bool.and_eq_true, decide_eq_true_eq] at ho
          have hK : D.K = [] := List.length_eq_zero_iff.1 ho.1.2.2.1
          rw [hK]
          exact ⟨by simp, fun k hk => by cases hk⟩
        · unfold innerB at ho
          rw [Bool.and_eq_true, decide_eq_true_eq] at ho
          refine ⟨ho.1.2.2.2.2, fun k hk => ?_⟩
          obtain ⟨i, hi, rfl⟩ := List.getElem_of_mem hk
          have h9 := ho.2
          unfold kidsB at h9
          rw [List.all_eq_true] at h9
          have h8 := h9 i (List.mem_range.2 hi)
          unfold kidB at h8
          rw [Bool.and_eq_true, Bool.and_eq_true] at h8
          have h7 := h8.1.1
          rw [List.getD_eq_getElem?_getD, List.getElem?_eq_getElem hi] at h7
          exact h7
  · cases h
theorem nodeR_small {B : List Nat} {D : NM} (h : nodeR B = some D) (h1 : ¬ 65536 < B.length) (h8 : ∀ x ∈ B, x < 256) : smallN D ∧ wtN D ≤ 100 := by
  have hs : sealedB B = true := by
    unfold nodeR at h
    split at h
    · assumption
    · cases h
  have h9 := read_small B h8
  rw [readN_R h1 hs, h] at h9
  exact h9
theorem heap_small {H : List NM} (hl : H.length = 50) (h : ∀ i, smallN (H.getD i nm0) ∧ wtN (H.getD i nm0) ≤ 100) : smallH H := by
  have hm : ∀ D ∈ H, smallN D ∧ wtN D ≤ 100 := fun D hD => by
    obtain ⟨i, hi, rfl⟩ := List.getElem_of_mem hD
    have := h i
    rw [List.getD_eq_getElem?_getD, List.getElem?_eq_getElem hi] at this
    exact this
  refine ⟨?_, fun D hD => (hm D hD).1⟩
  have key : ∀ T : List NM, (∀ D ∈ T, wtN D ≤ 100) → (T.map wtN).sum ≤ 100 * T.length := by
    intro T
    induction T with
    | nil => simp
    | cons x T ih =>
      intro hT
      have h1 := hT x (List.mem_cons_self ..)
      have h2 := ih (fun D hD => hT D (List.mem_cons_of_mem _ hD))
      rw [List.map_cons, List.sum_cons, List.length_cons]
      omega
  have h2 := key H (fun D hD => (hm D hD).2)
  unfold wtH
  omega
theorem write_facts {w5 Wa Wb : World} {gN g k : Nat} {H : List NM} {E : NM} {A : Bool} {b1 b2 b3 : Option Addr} {l1 d1 l2 d2 l3 d3 o c : Nat} {T : List Int} (hH : HeapAt w5 gN g H) (hk : k < 50) (hR : ReadsX w5 gN g (.agg #[.bool A, .slice b1 l1 d1, .slice b2 l2 d2, .slice b3 l3 d3]) E) (hO : OffI w5 g o c T)
    (hWa : w5.alloc (.cells #[.bool A, .slice b1 l1 d1, .slice b2 l2 d2, .slice b3 l3 d3] 137) = Wa) (hWb : W4o Wa gN (k * 4) (.bool A) (.slice b1 l1 d1) (.slice b2 l2 d2) (.slice b3 l3 d3) = Wb) :
    HeapAt Wb gN g (H.set k E) ∧ OffI Wb g o c T ∧ Src Wb b3 (cellsI E.K) ∧ (∀ B vs, B ≠ gN → Box w5 B vs → Box Wb B vs) ∧ (∀ b x, Below b x w5 → b ≤ gN → b ≤ w5.heap.size → Below b x Wb) ∧ Box Wa w5.heap.size [.bool A, .slice b1 l1 d1, .slice b2 l2 d2, .slice b3 l3 d3] ∧ Wb.cell? ⟨w5.heap.size, 3, none⟩ = some (.slice b3 l3 d3) ∧ Wb.heap.size = w5.heap.size + 1
      ∧ ∃ u0 u1 u2 u3, (Wa.cell? ⟨gN, k * 4, none⟩ = some u0 ∧ Wa.frozen? ⟨gN, k * 4, none⟩ = false) ∧ (Wa.cell? ⟨gN, k * 4 + 1, none⟩ = some u1 ∧ Wa.frozen? ⟨gN, k * 4 + 1, none⟩ = false) ∧ (Wa.cell? ⟨gN, k * 4 + 2, none⟩ = some u2 ∧ Wa.frozen? ⟨gN, k * 4 + 2, none⟩ = false) ∧ (Wa.cell? ⟨gN, k * 4 + 3, none⟩ = some u3 ∧ Wa.frozen? ⟨gN, k * 4 + 3, none⟩ = false) := by
  have AB : Below w5.heap.size w5 Wa := by rw [← hWa]; exact (Below.refl _ _).alloc (Nat.le_refl _) _
  have hsz : Wb.heap.size = Wa.heap.size := by rw [← hWb]; simp [W4o]
  have hsa : Wa.heap.size = w5.heap.size + 1 := by rw [← hWa]; simp
  have hHa := hH.below AB
  have hRa : ReadsX Wa gN g (.agg #[.bool A, .slice b1 l1 d1, .slice b2 l2 d2, .slice b3 l3 d3]) E := hR.kept AB.size (.inl rfl) (fun k hk _ _ => AB.block k hk)
  have hoth : ∀ i, i ≠ gN → Wb.heap[i]? = Wa.heap[i]? := fun i hi => by
    rw [← hWb]
    unfold W4o
    rw [Below.heap_setCell _ _ _ _ (fun e => hi e), Below.heap_setCell _ _ _ _ (fun e => hi e), Below.heap_setCell _ _ _ _ (fun e => hi e), Below.heap_setCell _ _ _ _ (fun e => hi e)]
  have hRb := (hRa.kept (w' := Wb) (g' := g) (by omega) (.inl rfl) (fun i _ hi _ => hoth i (by omega))).reads
  have hfar : ∀ B vs, B ≠ gN → Box Wa B vs → Box Wb B vs := fun B vs hB hX => by
    rw [← hWb]
    exact (((hX.other _ (by dsimp only; exact hB) _).other _ (by dsimp only; exact hB) _).other _ (by dsimp only; exact hB) _).other _ (by dsimp only; exact hB) _
  have hX9 : Box Wa w5.heap.size [.bool A, .slice b1 l1 d1, .slice b2 l2 d2, .slice b3 l3 d3] := by rw [← hWa]; exact Box.new rfl
  have hne : gN ≠ g := hH.1
  have hlt : gN < w5.heap.size := hH.2.1
  refine ⟨by rw [← hWb]; exact hHa.set hk hRa, (hO.below AB).block (hoth g (fun e => hne e.symm)) (by omega), ?_, fun B vs hB hX => hfar B vs hB (hX.below AB), fun b x hb h1 h2 => ?_, hX9, ?_, by omega, ?_⟩
  · obtain ⟨_, _, _, _, a9, c9, e9, _, _, s9⟩ := hRb
    simp only [Value.agg.injEq, Array.mk.injEq, List.cons.injEq, Value.slice.injEq, and_true] at e9
    rw [e9.2.2.2.1]
    exact s9
  · rw [← hWb]
    have hb2 : Below b x Wa := hb.trans (AB.mono h2)
    exact Below.setCell (Below.setCell (Below.setCell (Below.setCell hb2 (by dsimp only; exact h1) _) (by dsimp only; exact h1) _) (by dsimp only; exact h1) _) (by dsimp only; exact h1) _
  · exact ((hfar _ _ (by omega) hX9) 3 _ rfl).1
  · obtain ⟨_, _, _, V, hV, hbx, _⟩ := hHa
    obtain ⟨t0, t1, t2, t3⟩ := cellsN_get V k (by omega)
    exact ⟨_, _, _, _, hbx _ _ t0, hbx _ _ t1, hbx _ _ t2, hbx _ _ t3⟩
end Go.Proofs.YtnnimocaanofjaaGreatDoor
