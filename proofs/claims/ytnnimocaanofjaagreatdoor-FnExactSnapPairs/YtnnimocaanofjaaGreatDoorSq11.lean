/-
  Texts of the store, brought together: Tr4. By an AI agent.
-/
import Derived.Test.YtnnimocaanofjaaGreatDoorSq10
namespace Go.Proofs.YtnnimocaanofjaaGreatDoor
open Go.ChangeShapes Go.WideShapes Go.ChangeAt Go.RowKit Go.Deep
set_option linter.unusedVariables false
set_option linter.unusedSimpArgs false
set_option maxRecDepth 100000
theorem walkAll {H : List NM} {w0 : World} {X hc gb : Nat} {ha : Option Addr} (hH : ReadsHL w0 ha H) (hlen : H.length = 50) (hsm : ∀ D ∈ H, smallN D) (hX : w0.heap.size ≤ X) (hgb : w0.heap.size ≤ gb) : ∀ d, WalkAll H w0 X ha hc gb d
  | 0 => walkStep hH hlen hsm hX hgb 0 (fun d' e => by cases e)
  | d + 1 => walkStep hH hlen hsm hX hgb (d + 1) (fun d' e => by cases e; exact walkAll hH hlen hsm hX hgb d)
theorem walkNo (X : Nat) (v0 v1 v2 : Value) (q : Int) (b : Nat) (w : World) (h : w.heap[X]? = some (Obj.cells #[v0, v1, v2, .bool false] 199 (0, 0))) :
    Calls Tryz.prog 145 #[.pointer (some ⟨X, 0, none⟩), .int .i64 q, .int .i64 (b : Int)] w fun e w' => e = .returned (.tuple #[]) ∧ w' = w.setCell ⟨X, 3, none⟩ (.bool false) := by
  obtain ⟨c3, c3f⟩ := blk_at h (i := 3) rfl
  clear h
  go_enter Tryz.func145, Tryz.ntmps145
  go_wp2_with fail
  exact bodyPost_ret (v := .tuple #[]) (by simp [results, Tryz.results145, go_sem]) rfl ⟨rfl, rfl⟩
theorem infoBo : (Tryz.prog.info? 4).map (fun i => (i.zero, i.size, i.bytes)) = some (some (.bool false), 1, 1) := by kernel_rfl
theorem run_make_Bo (w : World) : (Instr.makeSlice 111 (.int .i64 50) (.int .i64 50)).run Tryz.prog w = .ok (.slice (some ⟨w.heap.size, 0, none⟩) 50 50) (w.alloc (.cells (madeCells #[.bool false] 50) 4)) :=
  run_make_big 111 4 (.bool false) 1 1 50 Tryz.underlying111 infoBo (by omega) (by omega) w
def riseTo (P : List PM) (k : Nat) : Bool := (List.range k).all (riseB (fK P))
theorem riseTo_succ (P : List PM) (k : Nat) : riseTo P (k + 1) = (riseTo P k && riseB (fK P) k) := by
  unfold riseTo; rw [List.range_succ, List.all_append]; simp
theorem pairsOf_fit {s : St} (h : fitS s) : pairsOf s.P = (decide (s.P.length ≤ 60) && riseTo s.P s.P.length) := by
  unfold pairsOf pairsB riseTo
  congr 1
  rw [Bool.eq_iff_iff, List.all_eq_true, List.all_eq_true]
  refine ⟨fun h1 i hi => ?_, fun h1 i hi => ?_⟩
  · have := h1 i hi
    unfold goodB at this
    rw [Bool.and_eq_true] at this
    exact this.2
  · have h2 := h1 i hi
    have h3 := h _ (mem_getD s.P p0 i (List.mem_range.1 hi))
    unfold goodB
    rw [Bool.and_eq_true]
    exact ⟨h3, h2⟩
def LookPost (H : List NM) (root : Int) (w : World) (e : Ending) (w' : World) : Prop :=
  Below w.heap.size w w' ∧ ((treeF H root = none ∧ ∃ v1 v2, e = .returned (.tuple #[v1, v2, .bool false])) ∨ ∃ s v1 v2, treeF H root = some s ∧ e = .returned (.tuple #[v1, v2, .bool true]) ∧ w'.ownsRow w.heap.size 109 2 v1 s.P.length (cellsP s.P) ∧ w'.ownsRow w.heap.size 4 1 v2 50 (s.R.map Value.bool) ∧ goodS s ∧ fitS s)
theorem rise1 (P : List PM) : riseTo P 1 = true := by
  rw [riseTo_succ]
  have h0 : riseTo P 0 = true := rfl
  rw [h0]
  unfold riseB
  simp
theorem rise_start (P : List PM) (ok : Bool) : ok = (ok && riseTo P 1) := by rw [rise1, Bool.and_true]
theorem rise_no {P : List PM} {ok : Bool} {k : Nat} (h : false = (ok && riseTo P k)) : false = (ok && riseTo P (k + 1)) := by
  rw [riseTo_succ, ← Bool.and_assoc, ← h]; rfl
theorem rise_next {P : List PM} {ok b : Bool} {k : Nat} (h : true = (ok && riseTo P k)) (hb : riseB (fK P) k = b) : b = (ok && riseTo P (k + 1)) := by
  rw [riseTo_succ, ← Bool.and_assoc, ← h, hb]; rfl
theorem XM.drew {w : World} {base X hc pc gb : Nat} {ha pa : Option Addr} {s : St} {ok : Bool} (h : XM w base X ha hc s pa pc gb ok) : XM w.drew base X ha hc s pa pc gb ok := h.below (Below.refl _ _).drew
theorem psrc {w : World} {base e z n c : Nat} {a : Option Addr} {xs : List Value} (h : w.ownsRow base e z (.slice a n c) n xs) : Src w a xs := by
  obtain ⟨a', c', he, hs, _⟩ := own_src h
  cases he
  exact hs
theorem rise_b {P : List PM} {k : Nat} {x x' y y' : ByteArray} {b : Bool} (h1 : P.getD k p0 = (x, x')) (h2 : P.getD (k - 1) p0 = (y, y')) (hk : 1 ≤ k) (hb : Op.bytesLess y.toList x.toList = b) : riseB (fK P) k = b := by
  unfold riseB fK
  rw [h1, h2, hb, decide_eq_false (by omega)]
  rfl
def Seen (H : List NM) (root : Int) (s : St) (ok : Bool) : Prop := (ok = true → treeF H root = (if pairsOf s.P = true then some s else none) ∧ fitS s) ∧ (ok = false → treeF H root = none)
theorem seen_walk {H : List NM} {root : Int} {s : St} {ok : Bool} (hl : H.length = 50) (hr : ¬ root = -1) (h1 : ok = true → growF H 21 root st0 = some s) (h2 : ok = false → growF H 21 root st0 = none) : Seen H root s ok := by
  refine ⟨fun e => ⟨?_, grow_fit 21 root st0 s (h1 e) (fun x hx => by cases hx)⟩, fun e => ?_⟩
  · unfold treeF; rw [if_pos hl, if_neg hr, h1 e]
  · unfold treeF; rw [if_pos hl, if_neg hr, h2 e]
theorem seen_none {H : List NM} (hl : H.length = 50) : Seen H (-1) st0 true := by
  refine ⟨fun e => ⟨?_, fun x hx => by cases hx⟩, fun e => by cases e⟩
  unfold treeF; rw [if_pos hl, if_pos rfl]; rfl
theorem look_end {H : List NM} {root : Int} {s : St} {ok okk : Bool} {w w' : World} {X hc pc gb k n : Nat} {ha pa : Option Addr} (hs : Seen H root s ok) (hn : s.P.length = n) (h1 : n ≤ k) (h2 : k ≤ n ∨ k = 1) (hok : okk = (ok && riseTo s.P k)) (hx : XM w' w.heap.size X ha hc s pa pc gb okk) (hb : Below w.heap.size w w') :
    LookPost H root w (.returned (.tuple #[.slice pa n pc, .slice (some ⟨gb, 0, none⟩) 50 50, .bool (okk && decide (n ≤ 60))])) w' := by
  have hr : riseTo s.P k = riseTo s.P s.P.length := by
    rcases h2 with h2 | h2
    · rw [hn, show k = n by omega]
    · subst h2
      rcases Nat.lt_or_ge 0 n with h3 | h3
      · rw [hn, show n = 1 by omega]
      · rw [hn, show n = 0 by omega, rise1]; rfl
  refine ⟨hb, ?_⟩
  cases ok with
  | false =>
    left
    refine ⟨hs.2 rfl, .slice pa n pc, .slice (some ⟨gb, 0, none⟩) 50 50, ?_⟩
    rw [hok]; rfl
  | true =>
    obtain ⟨h3, h4⟩ := hs.1 rfl
    rw [pairsOf_fit h4, ← hr] at h3
    rw [hr, Bool.true_and] at hok
    rw [hr, ← hok, hn] at h3
    cases hv : (okk && decide (n ≤ 60)) with
    | false =>
      left
      rw [Bool.and_comm, hv] at h3
      exact ⟨by rw [h3]; rfl, _, _, rfl⟩
    | true =>
      right
      rw [Bool.and_comm, hv] at h3
      refine ⟨s, _, _, by rw [h3]; rfl, rfl, ?_, hx.grow, hx.good, h4⟩
      have := hx.prow
      rw [hn] at this ⊢
      exact this
theorem own_pages (w : World) (base : Nat) (hb : base ≤ w.heap.size) : (w.alloc (.cells (madeCells #[.bool false] 50) 4)).ownsRow base 4 1 (.slice (some ⟨w.heap.size, 0, none⟩) 50 50) 50 ((List.replicate 50 false).map Value.bool) := by
  refine ⟨by simp, .inr ⟨w.heap.size, 50, _, rfl, hb, heap_alloc_new _ _, Nat.le_refl _, by unfold maxLen; omega, by simp [size_madeCells], ?_⟩⟩
  rw [toList_madeCells_one, List.take_of_length_le (by simp)]
  simp
theorem startO (w : World) (o1 o2 o3 o4 : Obj) : ((((w.alloc o1).alloc o2).alloc o3).alloc o4).drew.heap[w.heap.size + 1 + 1 + 1]? = some o4 ∧ Below w.heap.size w ((((w.alloc o1).alloc o2).alloc o3).alloc o4).drew := by
  refine ⟨?_, (((((Below.refl _ _).alloc (Nat.le_refl _) _).alloc (by simp) _).alloc (by simp; omega) _).alloc (by simp; omega) _).drew⟩
  have := heap_alloc_new (((w.alloc o1).alloc o2).alloc o3) o4
  simp only [World.size_alloc] at this
  exact this
theorem look_no {H : List NM} {root : Int} {w w' : World} {v1 v2 : Value} (h : treeF H root = none) (hb : Below w.heap.size w w') : LookPost H root w (.returned (.tuple #[v1, v2, .bool false])) w' := ⟨hb, .inl ⟨h, v1, v2, rfl⟩⟩
theorem startA (w : World) (a : Option Addr) (c : Nat) : XM ((((w.alloc (.cells #[.slice a 50 c] 45)).alloc (.cells #[] 109)).alloc (.cells (madeCells #[.bool false] 50) 4)).alloc (.cells #[.slice a 50 c, .slice (some ⟨w.heap.size + 1, 0, none⟩) 0 0, .slice (some ⟨w.heap.size + 1 + 1, 0, none⟩) 50 50, .bool true] 199)).drew w.heap.size (w.heap.size + 1 + 1 + 1) a c st0 (some ⟨w.heap.size + 1, 0, none⟩) 0 (w.heap.size + 1 + 1) true ∧ Below w.heap.size w ((((w.alloc (.cells #[.slice a 50 c] 45)).alloc (.cells #[] 109)).alloc (.cells (madeCells #[.bool false] 50) 4)).alloc (.cells #[.slice a 50 c, .slice (some ⟨w.heap.size + 1, 0, none⟩) 0 0, .slice (some ⟨w.heap.size + 1 + 1, 0, none⟩) 50 50, .bool true] 199)).drew := by
  have hB : ∀ o1 o2 o3 o4, Below w.heap.size w ((((w.alloc o1).alloc o2).alloc o3).alloc o4).drew := fun o1 o2 o3 o4 => (((((Below.refl _ _).alloc (Nat.le_refl _) _).alloc (by simp) _).alloc (by simp; omega) _).alloc (by simp; omega) _).drew
  refine ⟨XM.drew ⟨?_, ?_, ?_, good0⟩, hB _ _ _ _⟩
  · have := heap_alloc_new (((w.alloc (.cells #[.slice a 50 c] 45)).alloc (.cells #[] 109)).alloc (.cells (madeCells #[.bool false] 50) 4)) (.cells #[.slice a 50 c, .slice (some ⟨w.heap.size + 1, 0, none⟩) 0 0, .slice (some ⟨w.heap.size + 1 + 1, 0, none⟩) 50 50, .bool true] 199)
    rw [show (w.heap.size + 1 + 1 + 1) = _ from rfl]; simp only [World.size_alloc] at this; exact this
  · exact own_below (own_below (own_empty (B := w.heap.size + 1) (by simp) (by simp)) ((Below.refl _ _).alloc (Nat.le_refl _) _)) ((Below.refl _ _).alloc (Nat.le_refl _) _)
  · have := own_below (own_pages ((w.alloc (.cells #[.slice a 50 c] 45)).alloc (.cells #[] 109)) w.heap.size (by simp; omega)) ((Below.refl _ _).alloc (Nat.le_refl _) (.cells #[.slice a 50 c, .slice (some ⟨w.heap.size + 1, 0, none⟩) 0 0, .slice (some ⟨w.heap.size + 1 + 1, 0, none⟩) 50 50, .bool true] 199))
    simpa [st0] using this
theorem startB (w : World) (a : Option Addr) (c : Nat) : XM ((((w.alloc (.cells #[.slice a 50 c] 45)).alloc (.cells (madeCells #[.bool false] 50) 4)).alloc (.cells #[] 109)).alloc (.cells #[.slice a 50 c, .slice (some ⟨w.heap.size + 1 + 1, 0, none⟩) 0 0, .slice (some ⟨w.heap.size + 1, 0, none⟩) 50 50, .bool true] 199)).drew w.heap.size (w.heap.size + 1 + 1 + 1) a c st0 (some ⟨w.heap.size + 1 + 1, 0, none⟩) 0 (w.heap.size + 1) true ∧ Below w.heap.size w ((((w.alloc (.cells #[.slice a 50 c] 45)).alloc (.cells (madeCells #[.bool false] 50) 4)).alloc (.cells #[] 109)).alloc (.cells #[.slice a 50 c, .slice (some ⟨w.heap.size + 1 + 1, 0, none⟩) 0 0, .slice (some ⟨w.heap.size + 1, 0, none⟩) 50 50, .bool true] 199)).drew := by
  have hB : ∀ o1 o2 o3 o4, Below w.heap.size w ((((w.alloc o1).alloc o2).alloc o3).alloc o4).drew := fun o1 o2 o3 o4 => (((((Below.refl _ _).alloc (Nat.le_refl _) _).alloc (by simp) _).alloc (by simp; omega) _).alloc (by simp; omega) _).drew
  refine ⟨XM.drew ⟨?_, ?_, ?_, good0⟩, hB _ _ _ _⟩
  · have := heap_alloc_new (((w.alloc (.cells #[.slice a 50 c] 45)).alloc (.cells (madeCells #[.bool false] 50) 4)).alloc (.cells #[] 109)) (.cells #[.slice a 50 c, .slice (some ⟨w.heap.size + 1 + 1, 0, none⟩) 0 0, .slice (some ⟨w.heap.size + 1, 0, none⟩) 50 50, .bool true] 199)
    rw [show (w.heap.size + 1 + 1 + 1) = _ from rfl]; simp only [World.size_alloc] at this; exact this
  · exact own_below (own_empty (B := w.heap.size + 1 + 1) (by simp) (by simp; omega)) ((Below.refl _ _).alloc (Nat.le_refl _) _)
  · have := own_below (own_below (own_pages (w.alloc (.cells #[.slice a 50 c] 45)) w.heap.size (by simp)) ((Below.refl _ _).alloc (Nat.le_refl _) (.cells #[] 109))) ((Below.refl _ _).alloc (Nat.le_refl _) (.cells #[.slice a 50 c, .slice (some ⟨w.heap.size + 1 + 1, 0, none⟩) 0 0, .slice (some ⟨w.heap.size + 1, 0, none⟩) 50 50, .bool true] 199))
    simpa [st0] using this
set_option maxHeartbeats 4000000 in
theorem l03Walk (v : Value) (H : List NM) (root : Int) (w : World) (hsm : smallH H) (h : ReadsH w v H) :
    Calls Tryz.prog 112 #[v, .int .i64 root] w fun e w' => LookPost H root w e w' := by
  obtain ⟨a, c, rfl, hr⟩ := h
  have HR : Hid (ReadsHL w a H) := hr
  have HS : Hid (smallH H) := hsm
  obtain ⟨n, hn⟩ : ∃ n, H.length = n := ⟨_, rfl⟩
  have HN : Hid (H.length = n) := hn
  rw [hn]
  clear hr hsm hn
  have hmk := run_make_Bo
  by_cases h50 : n = 50
  case neg =>
    have F : Hid (treeF H root = none) := by show treeF H root = none; unfold treeF; rw [if_neg (by rw [HN.out]; exact h50)]
    have t1 : ((n : Int) == 50) = false := by simp; omega
    clear h50
    by_cases hroot : root = -1
    · subst hroot
      go_enter Tryz.func112, Tryz.ntmps112
      go_wp2_with fail
      go_region
      all_goals go_wp2_with fail
      · have X1 : Hid (((((w.alloc (.cells #[.slice a n c] 45)).alloc (.cells #[] 109)).alloc (.cells (madeCells #[.bool false] 50) 4)).alloc (.cells #[.slice a n c, .slice (some ⟨(w.heap.size + 1), 0, none⟩) 0 0, .slice (some ⟨(w.heap.size + 1 + 1), 0, none⟩) 50 50, .bool false] 199)).drew.heap[w.heap.size + 1 + 1 + 1]? = some (Obj.cells #[.slice a n c, .slice (some ⟨(w.heap.size + 1), 0, none⟩) 0 0, .slice (some ⟨(w.heap.size + 1 + 1), 0, none⟩) 50 50, .bool false] 199 (0, 0))) := (startO w _ _ _ _).1
        have B1 : Hid (Below w.heap.size w ((((w.alloc (.cells #[.slice a n c] 45)).alloc (.cells #[] 109)).alloc (.cells (madeCells #[.bool false] 50) 4)).alloc (.cells #[.slice a n c, .slice (some ⟨(w.heap.size + 1), 0, none⟩) 0 0, .slice (some ⟨(w.heap.size + 1 + 1), 0, none⟩) 50 50, .bool false] 199)).drew) := (startO w _ _ _ _).2
        go_loopw [8] (fun i wr => i = .int .i64 1 ∧ Hid (wr.heap[w.heap.size + 1 + 1 + 1]? = some (Obj.cells #[.slice a n c, .slice (some ⟨(w.heap.size + 1), 0, none⟩) 0 0, .slice (some ⟨(w.heap.size + 1 + 1), 0, none⟩) 50 50, .bool false] 199 (0, 0))) ∧ Hid (Below w.heap.size w wr)) (fun i _ => 0)
        case atStart => exact ⟨rfl, X1.out, B1.out⟩
        case round =>
          obtain ⟨rfl, hx, hb⟩ := hrel
          obtain ⟨c1, _⟩ := blk_at hx.out (i := 1) rfl
          obtain ⟨c2, _⟩ := blk_at hx.out (i := 2) rfl
          obtain ⟨c3, c3f⟩ := blk_at hx.out (i := 3) rfl
          have LP : Hid (LookPost H (-1) w (.returned (.tuple #[.slice (some ⟨(w.heap.size + 1), 0, none⟩) 0 0, .slice (some ⟨(w.heap.size + 1 + 1), 0, none⟩) 50 50, .bool false])) wr.drew) := look_no F.out hb.out.drew
          go_wp2_with fail
          go_region
          go_wp2_with fail
          exact bodyPost_ret (v := .tuple #[.slice (some ⟨(w.heap.size + 1), 0, none⟩) 0 0, .slice (some ⟨(w.heap.size + 1 + 1), 0, none⟩) 50 50, .bool false]) (by simp [results, Tryz.results112, go_sem]) rfl LP.out
      · have X1 : Hid (((((w.alloc (.cells #[.slice a n c] 45)).alloc (.cells (madeCells #[.bool false] 50) 4)).alloc (.cells #[] 109)).alloc (.cells #[.slice a n c, .slice (some ⟨(w.heap.size + 1 + 1), 0, none⟩) 0 0, .slice (some ⟨(w.heap.size + 1), 0, none⟩) 50 50, .bool false] 199)).drew.heap[w.heap.size + 1 + 1 + 1]? = some (Obj.cells #[.slice a n c, .slice (some ⟨(w.heap.size + 1 + 1), 0, none⟩) 0 0, .slice (some ⟨(w.heap.size + 1), 0, none⟩) 50 50, .bool false] 199 (0, 0))) := (startO w _ _ _ _).1
        have B1 : Hid (Below w.heap.size w ((((w.alloc (.cells #[.slice a n c] 45)).alloc (.cells (madeCells #[.bool false] 50) 4)).alloc (.cells #[] 109)).alloc (.cells #[.slice a n c, .slice (some ⟨(w.heap.size + 1 + 1), 0, none⟩) 0 0, .slice (some ⟨(w.heap.size + 1), 0, none⟩) 50 50, .bool false] 199)).drew) := (startO w _ _ _ _).2
        go_loopw [8] (fun i wr => i = .int .i64 1 ∧ Hid (wr.heap[w.heap.size + 1 + 1 + 1]? = some (Obj.cells #[.slice a n c, .slice (some ⟨(w.heap.size + 1 + 1), 0, none⟩) 0 0, .slice (some ⟨(w.heap.size + 1), 0, none⟩) 50 50, .bool false] 199 (0, 0))) ∧ Hid (Below w.heap.size w wr)) (fun i _ => 0)
        case atStart => exact ⟨rfl, X1.out, B1.out⟩
        case round =>
          obtain ⟨rfl, hx, hb⟩ := hrel
          obtain ⟨c1, _⟩ := blk_at hx.out (i := 1) rfl
          obtain ⟨c2, _⟩ := blk_at hx.out (i := 2) rfl
          obtain ⟨c3, c3f⟩ := blk_at hx.out (i := 3) rfl
          have LP : Hid (LookPost H (-1) w (.returned (.tuple #[.slice (some ⟨(w.heap.size + 1 + 1), 0, none⟩) 0 0, .slice (some ⟨(w.heap.size + 1), 0, none⟩) 50 50, .bool false])) wr.drew) := look_no F.out hb.out.drew
          go_wp2_with fail
          go_region
          go_wp2_with fail
          exact bodyPost_ret (v := .tuple #[.slice (some ⟨(w.heap.size + 1 + 1), 0, none⟩) 0 0, .slice (some ⟨(w.heap.size + 1), 0, none⟩) 50 50, .bool false]) (by simp [results, Tryz.results112, go_sem]) rfl LP.out
    · have t2 : (root == -1) = false := by simpa using hroot
      clear hroot
      go_enter Tryz.func112, Tryz.ntmps112
      go_wp2_with fail
      go_region
      all_goals go_wp2_with fail
      · refine (walkNo (w.heap.size + 1 + 1 + 1) _ _ _ root 0 _ (startO w _ _ _ _).1).mono ?_
        rintro e w1 ⟨rfl, hw1⟩
        have X1 : Hid (w1.heap[w.heap.size + 1 + 1 + 1]? = some (Obj.cells #[.slice a n c, .slice (some ⟨(w.heap.size + 1), 0, none⟩) 0 0, .slice (some ⟨(w.heap.size + 1 + 1), 0, none⟩) 50 50, .bool false] 199 (0, 0))) := by show _ = _; rw [hw1]; exact blk_set (startO w _ _ _ _).1 3 (.bool false)
        have B1 : Hid (Below w.heap.size w w1) := by show Below _ _ _; rw [hw1]; exact (startO w _ _ _ _).2.setCell (by show w.heap.size ≤ w.heap.size + 1 + 1 + 1; omega) _
        clear hw1
        go_wp2_with fail
        go_loopw [8] (fun i wr => i = .int .i64 1 ∧ Hid (wr.heap[w.heap.size + 1 + 1 + 1]? = some (Obj.cells #[.slice a n c, .slice (some ⟨(w.heap.size + 1), 0, none⟩) 0 0, .slice (some ⟨(w.heap.size + 1 + 1), 0, none⟩) 50 50, .bool false] 199 (0, 0))) ∧ Hid (Below w.heap.size w wr)) (fun i _ => 0)
        case atStart => exact ⟨rfl, X1.out, B1.out⟩
        case round =>
          obtain ⟨rfl, hx, hb⟩ := hrel
          obtain ⟨c1, _⟩ := blk_at hx.out (i := 1) rfl
          obtain ⟨c2, _⟩ := blk_at hx.out (i := 2) rfl
          obtain ⟨c3, c3f⟩ := blk_at hx.out (i := 3) rfl
          have LP : Hid (LookPost H root w (.returned (.tuple #[.slice (some ⟨(w.heap.size + 1), 0, none⟩) 0 0, .slice (some ⟨(w.heap.size + 1 + 1), 0, none⟩) 50 50, .bool false])) wr.drew) := look_no F.out hb.out.drew
          go_wp2_with fail
          go_region
          go_wp2_with fail
          exact bodyPost_ret (v := .tuple #[.slice (some ⟨(w.heap.size + 1), 0, none⟩) 0 0, .slice (some ⟨(w.heap.size + 1 + 1), 0, none⟩) 50 50, .bool false]) (by simp [results, Tryz.results112, go_sem]) rfl LP.out
      · refine (walkNo (w.heap.size + 1 + 1 + 1) _ _ _ root 0 _ (startO w _ _ _ _).1).mono ?_
        rintro e w1 ⟨rfl, hw1⟩
        have X1 : Hid (w1.heap[w.heap.size + 1 + 1 + 1]? = some (Obj.cells #[.slice a n c, .slice (some ⟨(w.heap.size + 1 + 1), 0, none⟩) 0 0, .slice (some ⟨(w.heap.size + 1), 0, none⟩) 50 50, .bool false] 199 (0, 0))) := by show _ = _; rw [hw1]; exact blk_set (startO w _ _ _ _).1 3 (.bool false)
        have B1 : Hid (Below w.heap.size w w1) := by show Below _ _ _; rw [hw1]; exact (startO w _ _ _ _).2.setCell (by show w.heap.size ≤ w.heap.size + 1 + 1 + 1; omega) _
        clear hw1
        go_wp2_with fail
        go_loopw [8] (fun i wr => i = .int .i64 1 ∧ Hid (wr.heap[w.heap.size + 1 + 1 + 1]? = some (Obj.cells #[.slice a n c, .slice (some ⟨(w.heap.size + 1 + 1), 0, none⟩) 0 0, .slice (some ⟨(w.heap.size + 1), 0, none⟩) 50 50, .bool false] 199 (0, 0))) ∧ Hid (Below w.heap.size w wr)) (fun i _ => 0)
        case atStart => exact ⟨rfl, X1.out, B1.out⟩
        case round =>
          obtain ⟨rfl, hx, hb⟩ := hrel
          obtain ⟨c1, _⟩ := blk_at hx.out (i := 1) rfl
          obtain ⟨c2, _⟩ := blk_at hx.out (i := 2) rfl
          obtain ⟨c3, c3f⟩ := blk_at hx.out (i := 3) rfl
          have LP : Hid (LookPost H root w (.returned (.tuple #[.slice (some ⟨(w.heap.size + 1 + 1), 0, none⟩) 0 0, .slice (some ⟨(w.heap.size + 1), 0, none⟩) 50 50, .bool false])) wr.drew) := look_no F.out hb.out.drew
          go_wp2_with fail
          go_region
          go_wp2_with fail
          exact bodyPost_ret (v := .tuple #[.slice (some ⟨(w.heap.size + 1 + 1), 0, none⟩) 0 0, .slice (some ⟨(w.heap.size + 1), 0, none⟩) 50 50, .bool false]) (by simp [results, Tryz.results112, go_sem]) rfl LP.out
  subst h50
  by_cases hroot : root = -1
  · subst hroot
    go_enter Tryz.func112, Tryz.ntmps112
    go_wp2_with fail
    go_region
    all_goals go_wp2_with fail
    · obtain ⟨s, pa, pc, ok, X1, S1⟩ : ∃ s pa pc ok, Hid (XM ((((w.alloc (.cells #[.slice a 50 c] 45)).alloc (.cells #[] 109)).alloc (.cells (madeCells #[.bool false] 50) 4)).alloc (.cells #[.slice a 50 c, .slice (some ⟨(w.heap.size + 1), 0, none⟩) 0 0, .slice (some ⟨(w.heap.size + 1 + 1), 0, none⟩) 50 50, .bool true] 199)).drew w.heap.size (w.heap.size + 1 + 1 + 1) a c s pa pc (w.heap.size + 1 + 1) ok) ∧ Hid (Seen H (-1) s ok) := ⟨st0, _, _, true, (startA w a c).1, seen_none HN.out⟩
      have B1 : Hid (Below w.heap.size w ((((w.alloc (.cells #[.slice a 50 c] 45)).alloc (.cells #[] 109)).alloc (.cells (madeCells #[.bool false] 50) 4)).alloc (.cells #[.slice a 50 c, .slice (some ⟨(w.heap.size + 1), 0, none⟩) 0 0, .slice (some ⟨(w.heap.size + 1 + 1), 0, none⟩) 50 50, .bool true] 199)).drew) := (startA w a c).2
      clear hmk
      obtain ⟨n, hn⟩ : ∃ n, s.P.length = n := ⟨_, rfl⟩
      have PN : Hid (s.P.length = n) := hn
      have hpl : n ≤ 150 := by rw [← hn]; exact good_le X1.out.good
      clear hn
      go_loopw [8] (fun i wr => ∃ (k : Nat) (okk : Bool), 1 ≤ k ∧ k ≤ n + 1 ∧ i = .int .i64 k ∧ Hid (k ≤ n ∨ k = 1) ∧ Hid (okk = (ok && riseTo s.P k)) ∧ Hid (XM wr w.heap.size (w.heap.size + 1 + 1 + 1) a c s pa pc (w.heap.size + 1 + 1) okk) ∧ Hid (Below w.heap.size w wr)) (fun i _ => n + 1 - (intOf i).toNat)
      case atStart => exact ⟨1, ok, by omega, by omega, rfl, .inr rfl, rise_start s.P ok, X1.out, B1.out⟩
      case round =>
        obtain ⟨k, okk, hk1, hk2, rfl, hk3, hok, hx, hb⟩ := hrel
        obtain ⟨c1, _⟩ := blk_at hx.out.blk (i := 1) rfl
        obtain ⟨c2, _⟩ := blk_at hx.out.blk (i := 2) rfl
        obtain ⟨c3, c3f⟩ := blk_at hx.out.blk (i := 3) rfl
        rw [PN.out] at c1
        by_cases hlt : k < n
        · have hki : (k : Int) < (n : Int) := by omega
          have hk0 : (0 : Int) ≤ (k : Int) := by omega
          cases okk with
          | false =>
            have OK2 : Hid (false = (ok && riseTo s.P (k + 1))) := rise_no hok.out
            have X2 : Hid (XM (wr.setCell ⟨(w.heap.size + 1 + 1 + 1), 3, none⟩ (.bool false)).drew w.heap.size (w.heap.size + 1 + 1 + 1) a c s pa pc (w.heap.size + 1 + 1) false) := (hx.out.setOk false).drew
            have B2 : Hid (Below w.heap.size w (wr.setCell ⟨(w.heap.size + 1 + 1 + 1), 3, none⟩ (.bool false)).drew) := (hb.out.setCell (by show w.heap.size ≤ w.heap.size + 1 + 1 + 1; omega) _).drew
            clear c2
            go_wp2_with fail
            go_region
            go_wp2_with fail
            exact ⟨⟨k + 1, false, by omega, by omega, by go_num, .inl hlt, OK2.out, X2.out, B2.out⟩, by simp [intOf]; omega⟩
          | true =>
            obtain ⟨pb, po, x, x', rfl, e1, _, f1⟩ := srcP (psrc hx.out.prow) (i := k) (by rw [PN.out]; exact hlt)
            obtain ⟨pb', po', y, y', he, e2, _, f2⟩ := srcP (psrc hx.out.prow) (i := k - 1) (by rw [PN.out]; omega)
            cases he
            have hkm : (0 : Int) ≤ (k : Int) - 1 := by omega
            have hkm2 : (k : Int) - 1 < (n : Int) := by omega
            obtain ⟨b, hb9⟩ : ∃ b, Op.bytesLess y.toList x.toList = b := ⟨_, rfl⟩
            have OK2 : Hid (b = (ok && riseTo s.P (k + 1))) := rise_next hok.out (rise_b f1.out f2.out hk1 hb9)
            have X2 : Hid (XM (wr.setCell ⟨(w.heap.size + 1 + 1 + 1), 3, none⟩ (.bool b)).drew w.heap.size (w.heap.size + 1 + 1 + 1) a c s (some ⟨pb, po, none⟩) pc (w.heap.size + 1 + 1) b) := (hx.out.setOk b).drew
            have B2 : Hid (Below w.heap.size w (wr.setCell ⟨(w.heap.size + 1 + 1 + 1), 3, none⟩ (.bool b)).drew) := (hb.out.setCell (by show w.heap.size ≤ w.heap.size + 1 + 1 + 1; omega) _).drew
            clear c2
            go_wp2_with fail
            go_region
            go_wp2_with fail
            exact ⟨⟨k + 1, b, by omega, by omega, by go_num, .inl hlt, OK2.out, X2.out, B2.out⟩, by simp [intOf]; omega⟩
        · have LP : Hid (LookPost H (-1) w (.returned (.tuple #[.slice pa n pc, .slice (some ⟨(w.heap.size + 1 + 1), 0, none⟩) 50 50, .bool (okk && decide (n ≤ 60))])) wr.drew) := look_end S1.out PN.out (by omega) hk3.out hok.out hx.out.drew hb.out.drew
          cases okk with
          | false =>
            go_wp2_with fail
            go_region
            go_wp2_with fail
            exact bodyPost_ret (v := .tuple #[.slice pa n pc, .slice (some ⟨(w.heap.size + 1 + 1), 0, none⟩) 50 50, .bool (false && decide (n ≤ 60))]) (by simp [results, Tryz.results112, go_sem]) rfl LP.out
          | true =>
            go_wp2_with fail
            go_region
            go_wp2_with fail
            exact bodyPost_ret (v := .tuple #[.slice pa n pc, .slice (some ⟨(w.heap.size + 1 + 1), 0, none⟩) 50 50, .bool (true && decide (n ≤ 60))]) (by simp [results, Tryz.results112, go_sem]; omega) rfl LP.out
    · obtain ⟨s, pa, pc, ok, X1, S1⟩ : ∃ s pa pc ok, Hid (XM ((((w.alloc (.cells #[.slice a 50 c] 45)).alloc (.cells (madeCells #[.bool false] 50) 4)).alloc (.cells #[] 109)).alloc (.cells #[.slice a 50 c, .slice (some ⟨(w.heap.size + 1 + 1), 0, none⟩) 0 0, .slice (some ⟨(w.heap.size + 1), 0, none⟩) 50 50, .bool true] 199)).drew w.heap.size (w.heap.size + 1 + 1 + 1) a c s pa pc (w.heap.size + 1) ok) ∧ Hid (Seen H (-1) s ok) := ⟨st0, _, _, true, (startB w a c).1, seen_none HN.out⟩
      have B1 : Hid (Below w.heap.size w ((((w.alloc (.cells #[.slice a 50 c] 45)).alloc (.cells (madeCells #[.bool false] 50) 4)).alloc (.cells #[] 109)).alloc (.cells #[.slice a 50 c, .slice (some ⟨(w.heap.size + 1 + 1), 0, none⟩) 0 0, .slice (some ⟨(w.heap.size + 1), 0, none⟩) 50 50, .bool true] 199)).drew) := (startB w a c).2
      clear hmk
      obtain ⟨n, hn⟩ : ∃ n, s.P.length = n := ⟨_, rfl⟩
      have PN : Hid (s.P.length = n) := hn
      have hpl : n ≤ 150 := by rw [← hn]; exact good_le X1.out.good
      clear hn
      go_loopw [8] (fun i wr => ∃ (k : Nat) (okk : Bool), 1 ≤ k ∧ k ≤ n + 1 ∧ i = .int .i64 k ∧ Hid (k ≤ n ∨ k = 1) ∧ Hid (okk = (ok && riseTo s.P k)) ∧ Hid (XM wr w.heap.size (w.heap.size + 1 + 1 + 1) a c s pa pc (w.heap.size + 1) okk) ∧ Hid (Below w.heap.size w wr)) (fun i _ => n + 1 - (intOf i).toNat)
      case atStart => exact ⟨1, ok, by omega, by omega, rfl, .inr rfl, rise_start s.P ok, X1.out, B1.out⟩
      case round =>
        obtain ⟨k, okk, hk1, hk2, rfl, hk3, hok, hx, hb⟩ := hrel
        obtain ⟨c1, _⟩ := blk_at hx.out.blk (i := 1) rfl
        obtain ⟨c2, _⟩ := blk_at hx.out.blk (i := 2) rfl
        obtain ⟨c3, c3f⟩ := blk_at hx.out.blk (i := 3) rfl
        rw [PN.out] at c1
        by_cases hlt : k < n
        · have hki : (k : Int) < (n : Int) := by omega
          have hk0 : (0 : Int) ≤ (k : Int) := by omega
          cases okk with
          | false =>
            have OK2 : Hid (false = (ok && riseTo s.P (k + 1))) := rise_no hok.out
            have X2 : Hid (XM (wr.setCell ⟨(w.heap.size + 1 + 1 + 1), 3, none⟩ (.bool false)).drew w.heap.size (w.heap.size + 1 + 1 + 1) a c s pa pc (w.heap.size + 1) false) := (hx.out.setOk false).drew
            have B2 : Hid (Below w.heap.size w (wr.setCell ⟨(w.heap.size + 1 + 1 + 1), 3, none⟩ (.bool false)).drew) := (hb.out.setCell (by show w.heap.size ≤ w.heap.size + 1 + 1 + 1; omega) _).drew
            clear c2
            go_wp2_with fail
            go_region
            go_wp2_with fail
            exact ⟨⟨k + 1, false, by omega, by omega, by go_num, .inl hlt, OK2.out, X2.out, B2.out⟩, by simp [intOf]; omega⟩
          | true =>
            obtain ⟨pb, po, x, x', rfl, e1, _, f1⟩ := srcP (psrc hx.out.prow) (i := k) (by rw [PN.out]; exact hlt)
            obtain ⟨pb', po', y, y', he, e2, _, f2⟩ := srcP (psrc hx.out.prow) (i := k - 1) (by rw [PN.out]; omega)
            cases he
            have hkm : (0 : Int) ≤ (k : Int) - 1 := by omega
            have hkm2 : (k : Int) - 1 < (n : Int) := by omega
            obtain ⟨b, hb9⟩ : ∃ b, Op.bytesLess y.toList x.toList = b := ⟨_, rfl⟩
            have OK2 : Hid (b = (ok && riseTo s.P (k + 1))) := rise_next hok.out (rise_b f1.out f2.out hk1 hb9)
            have X2 : Hid (XM (wr.setCell ⟨(w.heap.size + 1 + 1 + 1), 3, none⟩ (.bool b)).drew w.heap.size (w.heap.size + 1 + 1 + 1) a c s (some ⟨pb, po, none⟩) pc (w.heap.size + 1) b) := (hx.out.setOk b).drew
            have B2 : Hid (Below w.heap.size w (wr.setCell ⟨(w.heap.size + 1 + 1 + 1), 3, none⟩ (.bool b)).drew) := (hb.out.setCell (by show w.heap.size ≤ w.heap.size + 1 + 1 + 1; omega) _).drew
            clear c2
            go_wp2_with fail
            go_region
            go_wp2_with fail
            exact ⟨⟨k + 1, b, by omega, by omega, by go_num, .inl hlt, OK2.out, X2.out, B2.out⟩, by simp [intOf]; omega⟩
        · have LP : Hid (LookPost H (-1) w (.returned (.tuple #[.slice pa n pc, .slice (some ⟨(w.heap.size + 1), 0, none⟩) 50 50, .bool (okk && decide (n ≤ 60))])) wr.drew) := look_end S1.out PN.out (by omega) hk3.out hok.out hx.out.drew hb.out.drew
          cases okk with
          | false =>
            go_wp2_with fail
            go_region
            go_wp2_with fail
            exact bodyPost_ret (v := .tuple #[.slice pa n pc, .slice (some ⟨(w.heap.size + 1), 0, none⟩) 50 50, .bool (false && decide (n ≤ 60))]) (by simp [results, Tryz.results112, go_sem]) rfl LP.out
          | true =>
            go_wp2_with fail
            go_region
            go_wp2_with fail
            exact bodyPost_ret (v := .tuple #[.slice pa n pc, .slice (some ⟨(w.heap.size + 1), 0, none⟩) 50 50, .bool (true && decide (n ≤ 60))]) (by simp [results, Tryz.results112, go_sem]; omega) rfl LP.out
  have HRT : Hid (¬ root = -1) := hroot
  have t2 : (root == -1) = false := by simpa using hroot
  clear hroot
  go_enter Tryz.func112, Tryz.ntmps112
  go_wp2_with fail
  go_region
  all_goals go_wp2_with fail
  · refine (walkAll HR.out HN.out HS.out.2 (by omega) (by omega) 21 root 0 st0 _ _ _ rfl (startA w a c).1 (startA w a c).2).mono ?_
    rintro e w1 ⟨s, pa, pc, ok, rfl, xm1, b1, _, _, g1, g2⟩
    have X1 : Hid (XM w1 w.heap.size (w.heap.size + 1 + 1 + 1) a c s pa pc (w.heap.size + 1 + 1) ok) := xm1
    have B1 : Hid (Below w.heap.size w w1) := b1
    have S1 : Hid (Seen H root s ok) := seen_walk HN.out HRT.out g1 g2
    clear xm1 b1 g1 g2 hmk t2
    obtain ⟨n, hn⟩ : ∃ n, s.P.length = n := ⟨_, rfl⟩
    have PN : Hid (s.P.length = n) := hn
    have hpl : n ≤ 150 := by rw [← hn]; exact good_le X1.out.good
    clear hn
    go_wp2_with fail
    go_loopw [8] (fun i wr => ∃ (k : Nat) (okk : Bool), 1 ≤ k ∧ k ≤ n + 1 ∧ i = .int .i64 k ∧ Hid (k ≤ n ∨ k = 1) ∧ Hid (okk = (ok && riseTo s.P k)) ∧ Hid (XM wr w.heap.size (w.heap.size + 1 + 1 + 1) a c s pa pc (w.heap.size + 1 + 1) okk) ∧ Hid (Below w.heap.size w wr)) (fun i _ => n + 1 - (intOf i).toNat)
    case atStart => exact ⟨1, ok, by omega, by omega, rfl, .inr rfl, rise_start s.P ok, X1.out, B1.out⟩
    case round =>
      obtain ⟨k, okk, hk1, hk2, rfl, hk3, hok, hx, hb⟩ := hrel
      obtain ⟨c1, _⟩ := blk_at hx.out.blk (i := 1) rfl
      obtain ⟨c2, _⟩ := blk_at hx.out.blk (i := 2) rfl
      obtain ⟨c3, c3f⟩ := blk_at hx.out.blk (i := 3) rfl
      rw [PN.out] at c1
      by_cases hlt : k < n
      · have hki : (k : Int) < (n : Int) := by omega
        have hk0 : (0 : Int) ≤ (k : Int) := by omega
        cases okk with
        | false =>
          have OK2 : Hid (false = (ok && riseTo s.P (k + 1))) := rise_no hok.out
          have X2 : Hid (XM (wr.setCell ⟨(w.heap.size + 1 + 1 + 1), 3, none⟩ (.bool false)).drew w.heap.size (w.heap.size + 1 + 1 + 1) a c s pa pc (w.heap.size + 1 + 1) false) := (hx.out.setOk false).drew
          have B2 : Hid (Below w.heap.size w (wr.setCell ⟨(w.heap.size + 1 + 1 + 1), 3, none⟩ (.bool false)).drew) := (hb.out.setCell (by show w.heap.size ≤ w.heap.size + 1 + 1 + 1; omega) _).drew
          clear c2
          go_wp2_with fail
          go_region
          go_wp2_with fail
          exact ⟨⟨k + 1, false, by omega, by omega, by go_num, .inl hlt, OK2.out, X2.out, B2.out⟩, by simp [intOf]; omega⟩
        | true =>
          obtain ⟨pb, po, x, x', rfl, e1, _, f1⟩ := srcP (psrc hx.out.prow) (i := k) (by rw [PN.out]; exact hlt)
          obtain ⟨pb', po', y, y', he, e2, _, f2⟩ := srcP (psrc hx.out.prow) (i := k - 1) (by rw [PN.out]; omega)
          cases he
          have hkm : (0 : Int) ≤ (k : Int) - 1 := by omega
          have hkm2 : (k : Int) - 1 < (n : Int) := by omega
          obtain ⟨b, hb9⟩ : ∃ b, Op.bytesLess y.toList x.toList = b := ⟨_, rfl⟩
          have OK2 : Hid (b = (ok && riseTo s.P (k + 1))) := rise_next hok.out (rise_b f1.out f2.out hk1 hb9)
          have X2 : Hid (XM (wr.setCell ⟨(w.heap.size + 1 + 1 + 1), 3, none⟩ (.bool b)).drew w.heap.size (w.heap.size + 1 + 1 + 1) a c s (some ⟨pb, po, none⟩) pc (w.heap.size + 1 + 1) b) := (hx.out.setOk b).drew
          have B2 : Hid (Below w.heap.size w (wr.setCell ⟨(w.heap.size + 1 + 1 + 1), 3, none⟩ (.bool b)).drew) := (hb.out.setCell (by show w.heap.size ≤ w.heap.size + 1 + 1 + 1; omega) _).drew
          clear c2
          go_wp2_with fail
          go_region
          go_wp2_with fail
          exact ⟨⟨k + 1, b, by omega, by omega, by go_num, .inl hlt, OK2.out, X2.out, B2.out⟩, by simp [intOf]; omega⟩
      · have LP : Hid (LookPost H root w (.returned (.tuple #[.slice pa n pc, .slice (some ⟨(w.heap.size + 1 + 1), 0, none⟩) 50 50, .bool (okk && decide (n ≤ 60))])) wr.drew) := look_end S1.out PN.out (by omega) hk3.out hok.out hx.out.drew hb.out.drew
        cases okk with
        | false =>
          go_wp2_with fail
          go_region
          go_wp2_with fail
          exact bodyPost_ret (v := .tuple #[.slice pa n pc, .slice (some ⟨(w.heap.size + 1 + 1), 0, none⟩) 50 50, .bool (false && decide (n ≤ 60))]) (by simp [results, Tryz.results112, go_sem]) rfl LP.out
        | true =>
          go_wp2_with fail
          go_region
          go_wp2_with fail
          exact bodyPost_ret (v := .tuple #[.slice pa n pc, .slice (some ⟨(w.heap.size + 1 + 1), 0, none⟩) 50 50, .bool (true && decide (n ≤ 60))]) (by simp [results, Tryz.results112, go_sem]; omega) rfl LP.out
  · refine (walkAll HR.out HN.out HS.out.2 (by omega) (by omega) 21 root 0 st0 _ _ _ rfl (startB w a c).1 (startB w a c).2).mono ?_
    rintro e w1 ⟨s, pa, pc, ok, rfl, xm1, b1, _, _, g1, g2⟩
    have X1 : Hid (XM w1 w.heap.size (w.heap.size + 1 + 1 + 1) a c s pa pc (w.heap.size + 1) ok) := xm1
    have B1 : Hid (Below w.heap.size w w1) := b1
    have S1 : Hid (Seen H root s ok) := seen_walk HN.out HRT.out g1 g2
    clear xm1 b1 g1 g2 hmk t2
    obtain ⟨n, hn⟩ : ∃ n, s.P.length = n := ⟨_, rfl⟩
    have PN : Hid (s.P.length = n) := hn
    have hpl : n ≤ 150 := by rw [← hn]; exact good_le X1.out.good
    clear hn
    go_wp2_with fail
    go_loopw [8] (fun i wr => ∃ (k : Nat) (okk : Bool), 1 ≤ k ∧ k ≤ n + 1 ∧ i = .int .i64 k ∧ Hid (k ≤ n ∨ k = 1) ∧ Hid (okk = (ok && riseTo s.P k)) ∧ Hid (XM wr w.heap.size (w.heap.size + 1 + 1 + 1) a c s pa pc (w.heap.size + 1) okk) ∧ Hid (Below w.heap.size w wr)) (fun i _ => n + 1 - (intOf i).toNat)
    case atStart => exact ⟨1, ok, by omega, by omega, rfl, .inr rfl, rise_start s.P ok, X1.out, B1.out⟩
    case round =>
      obtain ⟨k, okk, hk1, hk2, rfl, hk3, hok, hx, hb⟩ := hrel
      obtain ⟨c1, _⟩ := blk_at hx.out.blk (i := 1) rfl
      obtain ⟨c2, _⟩ := blk_at hx.out.blk (i := 2) rfl
      obtain ⟨c3, c3f⟩ := blk_at hx.out.blk (i := 3) rfl
      rw [PN.out] at c1
      by_cases hlt : k < n
      · have hki : (k : Int) < (n : Int) := by omega
        have hk0 : (0 : Int) ≤ (k : Int) := by omega
        cases okk with
        | false =>
          have OK2 : Hid (false = (ok && riseTo s.P (k + 1))) := rise_no hok.out
          have X2 : Hid (XM (wr.setCell ⟨(w.heap.size + 1 + 1 + 1), 3, none⟩ (.bool false)).drew w.heap.size (w.heap.size + 1 + 1 + 1) a c s pa pc (w.heap.size + 1) false) := (hx.out.setOk false).drew
          have B2 : Hid (Below w.heap.size w (wr.setCell ⟨(w.heap.size + 1 + 1 + 1), 3, none⟩ (.bool false)).drew) := (hb.out.setCell (by show w.heap.size ≤ w.heap.size + 1 + 1 + 1; omega) _).drew
          clear c2
          go_wp2_with fail
          go_region
          go_wp2_with fail
          exact ⟨⟨k + 1, false, by omega, by omega, by go_num, .inl hlt, OK2.out, X2.out, B2.out⟩, by simp [intOf]; omega⟩
        | true =>
          obtain ⟨pb, po, x, x', rfl, e1, _, f1⟩ := srcP (psrc hx.out.prow) (i := k) (by rw [PN.out]; exact hlt)
          obtain ⟨pb', po', y, y', he, e2, _, f2⟩ := srcP (psrc hx.out.prow) (i := k - 1) (by rw [PN.out]; omega)
          cases he
          have hkm : (0 : Int) ≤ (k : Int) - 1 := by omega
          have hkm2 : (k : Int) - 1 < (n : Int) := by omega
          obtain ⟨b, hb9⟩ : ∃ b, Op.bytesLess y.toList x.toList = b := ⟨_, rfl⟩
          have OK2 : Hid (b = (ok && riseTo s.P (k + 1))) := rise_next hok.out (rise_b f1.out f2.out hk1 hb9)
          have X2 : Hid (XM (wr.setCell ⟨(w.heap.size + 1 + 1 + 1), 3, none⟩ (.bool b)).drew w.heap.size (w.heap.size + 1 + 1 + 1) a c s (some ⟨pb, po, none⟩) pc (w.heap.size + 1) b) := (hx.out.setOk b).drew
          have B2 : Hid (Below w.heap.size w (wr.setCell ⟨(w.heap.size + 1 + 1 + 1), 3, none⟩ (.bool b)).drew) := (hb.out.setCell (by show w.heap.size ≤ w.heap.size + 1 + 1 + 1; omega) _).drew
          clear c2
          go_wp2_with fail
          go_region
          go_wp2_with fail
          exact ⟨⟨k + 1, b, by omega, by omega, by go_num, .inl hlt, OK2.out, X2.out, B2.out⟩, by simp [intOf]; omega⟩
      · have LP : Hid (LookPost H root w (.returned (.tuple #[.slice pa n pc, .slice (some ⟨(w.heap.size + 1), 0, none⟩) 50 50, .bool (okk && decide (n ≤ 60))])) wr.drew) := look_end S1.out PN.out (by omega) hk3.out hok.out hx.out.drew hb.out.drew
        cases okk with
        | false =>
          go_wp2_with fail
          go_region
          go_wp2_with fail
          exact bodyPost_ret (v := .tuple #[.slice pa n pc, .slice (some ⟨(w.heap.size + 1), 0, none⟩) 50 50, .bool (false && decide (n ≤ 60))]) (by simp [results, Tryz.results112, go_sem]) rfl LP.out
        | true =>
          go_wp2_with fail
          go_region
          go_wp2_with fail
          exact bodyPost_ret (v := .tuple #[.slice pa n pc, .slice (some ⟨(w.heap.size + 1), 0, none⟩) 50 50, .bool (true && decide (n ≤ 60))]) (by simp [results, Tryz.results112, go_sem]; omega) rfl LP.out
end Go.Proofs.YtnnimocaanofjaaGreatDoor
