
/-
  Draws told by a function of the code: a byte, a number, what is kept. By an AI agent.
-/
import Derived.Test.YtpbodiaglgkkkaaDraws4
namespace Go.Proofs.Ytpbodiaglgkkkaa
open Go.ChangeShapes Go.WideShapes Go.ChangeAt Go.RowKit Go.Deep
set_option linter.unusedVariables false
set_option maxRecDepth 100000

def byteX (C : List Nat) (a s : Nat) : Nat := if a < C.length then C.getD a 0 else if 3000 < a + 1 then 0 else (s * 1103515245 + 12345) % 2147483648 / 65536 % 256
def byteS (C : List Nat) (a s : Nat) : Nat := if a < C.length then (s * 31 + C.getD a 0 + 7) % 2147483648 else if 3000 < a + 1 then s else (s * 1103515245 + 12345) % 2147483648
def keepsR (C : List Nat) : Nat → Nat → Nat → List Int
  | 0, _, _ => []
  | k + 1, a, s => ((byteX C a s % 2 : Nat) : Int) :: keepsR C k (a + 1) (byteS C a s)
theorem keepsR_length (C : List Nat) : ∀ k a s, (keepsR C k a s).length = k
  | 0, _, _ => rfl
  | k + 1, a, s => by simp [keepsR, keepsR_length C k]
def keepsM (C : List Nat) : List Int := keepsR C (byteX C 0 (C.length % 1000) % 12) 1 (byteS C 0 (C.length % 1000))
theorem keepsM_length (C : List Nat) : (keepsM C).length ≤ 11 := by
  unfold keepsM
  rw [keepsR_length]
  have := Nat.mod_lt (byteX C 0 (C.length % 1000)) (show 12 > 0 by omega)
  omega
/-- A source that stands at a known place. -/
def DrawE (w : World) (P : Nat) (ca : Option Addr) (n cc a s : Nat) (C : List Nat) : Prop :=
  Box w P [.slice ca n cc, .int .i64 (a : Int), .int .i64 (s : Int)] ∧ C.length = n ∧ n ≤ 1048576 ∧ (∀ x ∈ C, x < 256) ∧ Src w ca (cellsB C) ∧ (0 < n → ∀ a, ca = some a → a.block ≠ P) ∧ a ≤ 1000 ∧ s < 2147483648
theorem DrawE.lt {w : World} {P n cc a s : Nat} {ca : Option Addr} {C : List Nat} (h : DrawE w P ca n cc a s C) : P < w.heap.size := World.block_lt_of_cell? _ _ (h.1 0 _ rfl).1
theorem DrawE.below {w w' : World} {P n cc a s : Nat} {ca : Option Addr} {C : List Nat} (h : DrawE w P ca n cc a s C) (hb : Below w.heap.size w w') : DrawE w' P ca n cc a s C := ⟨h.1.below hb, h.2.1, h.2.2.1, h.2.2.2.1, h.2.2.2.2.1.below hb, h.2.2.2.2.2⟩
theorem DrawE.grown {w w' : World} {P n cc a s : Nat} {ca : Option Addr} {C : List Nat} {row : Option Nat} (h : DrawE w P ca n cc a s C) (hg : w.grownBy w' row) (hP : row ≠ some P) (hc : 0 < n → ∀ a, ca = some a → row ≠ some a.block) : DrawE w' P ca n cc a s C := by
  obtain ⟨h1, h4, h5, h6, h7, h8⟩ := h
  refine ⟨h1.grown hg hP, h4, h5, h6, ?_, h8⟩
  rcases h7 with h7 | ⟨b, o, rfl, h9⟩
  · exact .inl h7
  · refine .inr ⟨b, o, rfl, fun j hj => ?_⟩
    have h10 := h9 j hj
    rw [← h10]
    exact World.cell?_of_block (a := ⟨b, o + j, none⟩) (hg.block b (World.block_lt_of_cell? _ _ h10) (fun e => hc (by rw [cellsB_length, h4] at hj; omega) _ rfl e.symm))
set_option maxHeartbeats 2000000 in
theorem byteE (P n cc at_ seed : Nat) (ca : Option Addr) (C : List Nat) (w : World) (hC : C.length = n) (hn : n ≤ 1048576) (h8 : ∀ x ∈ C, x < 256) (hs : Src w ca (cellsB C)) (hP : 0 < n → ∀ a, ca = some a → a.block ≠ P) (hat : at_ ≤ 1000000) (hsd : seed < 2147483648) (hbox : Box w P [.slice ca n cc, .int .i64 (at_ : Int), .int .i64 (seed : Int)]) :
    Calls Try.prog 44 #[.pointer (some ⟨P, 0, none⟩)] w fun e w' => ∃ x s2 : Nat, e = .returned (.int .i64 (x : Int)) ∧ x = byteX C at_ seed ∧ s2 = byteS C at_ seed ∧ x < 256 ∧ s2 < 2147483648 ∧ Turned P (P + 1) w w' ∧ Box w' P [.slice ca n cc, .int .i64 ((at_ + 1 : Nat) : Int), .int .i64 (s2 : Int)] := by
  have HB : Hid (Box w P [.slice ca n cc, .int .i64 (at_ : Int), .int .i64 (seed : Int)]) := hbox
  have HC : Hid (C.length = n ∧ (∀ x ∈ C, x < 256) ∧ Src w ca (cellsB C) ∧ (0 < n → ∀ a, ca = some a → a.block ≠ P)) := ⟨hC, h8, hs, hP⟩
  obtain ⟨c0, c0f⟩ := hbox 0 _ rfl
  obtain ⟨c1, c1f⟩ := hbox 1 _ rfl
  obtain ⟨c2, c2f⟩ := hbox 2 _ rfl
  have T0 : Hid (Turned P (P + 1) w (w.setCell ⟨P, 1, none⟩ (.int .i64 ((at_ : Int) + 1)))) := turned_set w ⟨P, 1, none⟩ (by dsimp only; omega) (by dsimp only; omega) _
  have B1 : Hid (Box (w.setCell ⟨P, 1, none⟩ (.int .i64 ((at_ : Int) + 1))) P [.slice ca n cc, .int .i64 ((at_ : Int) + 1), .int .i64 (seed : Int)]) := hbox.set 1 _
  obtain ⟨d0, d0f⟩ := B1.out 0 _ rfl
  obtain ⟨d1, d1f⟩ := B1.out 1 _ rfl
  obtain ⟨d2, d2f⟩ := B1.out 2 _ rfl
  clear hC h8 hs hP hbox
  by_cases t1 : at_ < n
  · have hle : (at_ : Int) + 1 ≤ (n : Int) := by omega
    have hdec : decide ((at_ : Int) + 1 ≤ (n : Int)) = true := decide_eq_true hle
    obtain ⟨b, o, rfl, hcell⟩ : ∃ b o, ca = some ⟨b, o, none⟩ ∧ (w.setCell ⟨P, 1, none⟩ (.int .i64 ((at_ : Int) + 1))).cell? ⟨b, o + at_, none⟩ = some (.int .u8 ((C.getD at_ 0 : Nat) : Int)) := by
      rcases HC.out.2.2.1 with h | ⟨b, o, rfl, hc⟩
      · have h2 := cellsB_length C
        rw [h] at h2
        simp only [List.length_nil] at h2
        have := HC.out.1
        omega
      · refine ⟨b, o, rfl, ?_⟩
        have hne := HC.out.2.2.2 (by omega) _ rfl
        rw [World.cell?_setCell_other _ _ _ _ (fun e => hne (congrArg Addr.block e).symm), hc at_ (by rw [cellsB_length, HC.out.1]; exact t1), getD_some (cellsB_get C at_ (by rw [HC.out.1]; exact t1))]
    obtain ⟨y, hy⟩ : ∃ y, C.getD at_ 0 = y := ⟨_, rfl⟩
    rw [hy] at hcell
    have hy8 : y < 256 := by
      rw [← hy, List.getD_eq_getElem?_getD, List.getElem?_eq_getElem (by rw [HC.out.1]; exact t1)]
      exact HC.out.2.1 _ (List.getElem_mem _)
    obtain ⟨s2, hs2⟩ : ∃ s2, (seed * 31 + y + 7) % 2147483648 = s2 := ⟨_, rfl⟩
    have hs2l : s2 < 2147483648 := by rw [← hs2]; exact Nat.mod_lt _ (by omega)
    have R : Int.tmod ((seed : Int) * 31 + (y : Int) + 7) 2147483648 = (s2 : Int) := by
      have h9 := tmod_nat (seed * 31 + y + 7) 2147483648
      rw [hs2] at h9
      have e9 : (((seed * 31 + y + 7 : Nat)) : Int) = (seed : Int) * 31 + (y : Int) + 7 := by omega
      rw [e9] at h9
      exact h9
    have MX : Hid (y = byteX C at_ seed ∧ s2 = byteS C at_ seed) := by
      have e1 := HC.out.1
      refine ⟨?_, ?_⟩
      · unfold byteX
        rw [if_pos (by omega), hy]
      · unfold byteS
        rw [if_pos (by omega), hy, hs2]
    have i0 : (0 : Int) ≤ (at_ : Int) + 1 - 1 := by omega
    have i1 : (at_ : Int) + 1 - 1 < (n : Int) := by omega
    have i2 : (at_ : Int) + 1 - 1 = (at_ : Int) := by omega
    have FACTS : Hid (∀ N W2, ((w.setCell ⟨P, 1, none⟩ (.int .i64 ((at_ : Int) + 1))).drewN N).setCell ⟨P, 2, none⟩ (.int .i64 (s2 : Int)) = W2 → Box W2 P [.slice (some ⟨b, o, none⟩) n cc, .int .i64 ((at_ : Int) + 1), .int .i64 (s2 : Int)] ∧ W2.cell? ⟨b, o + at_, none⟩ = some (.int .u8 (y : Int)) ∧ Turned P (P + 1) w W2) := fun N W2 e => by
      subst e
      have hne : b ≠ P := HC.out.2.2.2 (by omega) _ rfl
      refine ⟨Box.set (w := (w.setCell ⟨P, 1, none⟩ (.int .i64 ((at_ : Int) + 1))).drewN N) B1.out 2 _, ?_, (turned_drewN T0.out N).trans (turned_set _ ⟨P, 2, none⟩ (by dsimp only; omega) (by dsimp only; omega) _)⟩
      rw [World.cell?_setCell_other _ _ _ _ (fun e => hne (congrArg Addr.block e).symm)]
      exact hcell
    clear hs2 hy
    go_enter Try.func44, Try.ntmps44
    go_wp2_with fail
    go_quiet (fail)
    go_wp2_with fail
    go_region
    all_goals go_wp2_with fail
    all_goals
      generalize hW : World.setCell (World.drewN _ _) _ _ = W2
      obtain ⟨g1, g2, g3⟩ := FACTS.out _ _ hW
      have G1 : Hid (Box W2 P [.slice (some ⟨b, o, none⟩) n cc, .int .i64 ((at_ : Int) + 1), .int .i64 (s2 : Int)]) := g1
      have G3 : Hid (Turned P (P + 1) w W2) := g3
      obtain ⟨f0, _⟩ := g1 0 _ rfl
      obtain ⟨f1, _⟩ := g1 1 _ rfl
      clear hW g1 g3 c0 c1 c2 d0 d1 d2 c0f c1f c2f d0f d1f d2f hcell
      go_quiet (fail)
      go_wp2_with fail
      go_ret
      exact ⟨y, s2, rfl, MX.out.1, MX.out.2, hy8, hs2l, turned_drewN G3.out _, G1.out⟩
  have hle : ¬ (at_ : Int) + 1 ≤ (n : Int) := by omega
  have hdec : decide ((at_ : Int) + 1 ≤ (n : Int)) = false := decide_eq_false hle
  by_cases t2 : (3000 : Int) < (at_ : Int) + 1
  · have MX : Hid (0 = byteX C at_ seed ∧ seed = byteS C at_ seed) := by
      have e1 := HC.out.1
      refine ⟨?_, ?_⟩
      · unfold byteX
        rw [if_neg (by omega), if_pos (by omega)]
      · unfold byteS
        rw [if_neg (by omega), if_pos (by omega)]
    go_enter Try.func44, Try.ntmps44
    go_wp2_with fail
    go_quiet (fail)
    go_wp2_with fail
    go_ret
    exact ⟨0, seed, rfl, MX.out.1, MX.out.2, by omega, hsd, turned_drewN T0.out _, B1.out⟩
  obtain ⟨s2, hs2⟩ : ∃ s2, (seed * 1103515245 + 12345) % 2147483648 = s2 := ⟨_, rfl⟩
  have hs2l : s2 < 2147483648 := by rw [← hs2]; exact Nat.mod_lt _ (by omega)
  have R : Int.tmod ((seed : Int) * 1103515245 + 12345) 2147483648 = (s2 : Int) := by
    have h9 := tmod_nat (seed * 1103515245 + 12345) 2147483648
    rw [hs2] at h9
    have e9 : (((seed * 1103515245 + 12345 : Nat)) : Int) = (seed : Int) * 1103515245 + 12345 := by omega
    rw [e9] at h9
    exact h9
  obtain ⟨x, hx9⟩ : ∃ x, s2 / 65536 % 256 = x := ⟨_, rfl⟩
  have hxl : x < 256 := by rw [← hx9]; exact Nat.mod_lt _ (by omega)
  have Q : (s2 : Int) / 65536 % 256 = (x : Int) := by rw [← hx9]; omega
  have MX : Hid (x = byteX C at_ seed ∧ s2 = byteS C at_ seed) := by
    have e1 := HC.out.1
    refine ⟨?_, ?_⟩
    · unfold byteX
      rw [if_neg (by omega), if_neg (by omega), hs2, hx9]
    · unfold byteS
      rw [if_neg (by omega), if_neg (by omega), hs2]
  clear hs2 hx9
  go_enter Try.func44, Try.ntmps44
  go_wp2_with fail
  go_quiet (fail)
  go_wp2_with fail
  go_ret
  exact ⟨x, s2, by show Ending.returned (.int .i64 ((s2 : Int) / 65536 % 256)) = _; rw [Q], MX.out.1, MX.out.2, hxl, hs2l, (turned_drewN T0.out _).trans (turned_set _ ⟨P, 2, none⟩ (by dsimp only; omega) (by dsimp only; omega) _), Box.set (w := (w.setCell ⟨P, 1, none⟩ (.int .i64 ((at_ : Int) + 1))).drewN _) B1.out 2 _⟩

theorem DrawE.byte {w : World} {P n cc a s : Nat} {ca : Option Addr} {C : List Nat} (h : DrawE w P ca n cc a s C) (ha : a < 1000) :
    Calls Try.prog 44 #[.pointer (some ⟨P, 0, none⟩)] w fun e w' => ∃ x s2 : Nat, e = .returned (.int .i64 (x : Int)) ∧ x = byteX C a s ∧ s2 = byteS C a s ∧ x < 256 ∧ Turned P (P + 1) w w' ∧ DrawE w' P ca n cc (a + 1) s2 C := by
  obtain ⟨h1, h2, h3, h4, h5, h6, h7, h8⟩ := h
  refine (byteE P n cc a s ca C w h2 h3 h4 h5 h6 (by omega) h8 h1).mono ?_
  rintro e w' ⟨x, s2, rfl, hx, hs, hx8, hs8, ht, hb⟩
  exact ⟨x, s2, rfl, hx, hs, hx8, ht, hb, h2, h3, h4, h5.turned ht (fun hl ad e => by have := h6 (by rw [cellsB_length] at hl; omega) ad e; omega), h6, by omega, hs8⟩
set_option maxHeartbeats 1000000 in
theorem nextE (P n cc a s m : Nat) (ca : Option Addr) (C : List Nat) (w : World) (hm : 2 ≤ m) (hm2 : m ≤ 256) (ha : a < 1000) (h : DrawE w P ca n cc a s C) :
    Calls Try.prog 37 #[.pointer (some ⟨P, 0, none⟩), .int .i64 (m : Int)] w fun e w' => ∃ x s2 : Nat, e = .returned (.int .i64 (x : Int)) ∧ x = byteX C a s % m ∧ s2 = byteS C a s ∧ Turned P (P + 1) w w' ∧ DrawE w' P ca n cc (a + 1) s2 C := by
  have H : Hid (DrawE w P ca n cc a s C) := h
  clear h
  have t1 : ¬ (m : Int) ≤ 1 := by omega
  have hmz : ¬ (m : Int) = 0 := by omega
  have hmz2 : ¬ m = 0 := by omega
  have t2 : (m : Int) ≤ 256 := by omega
  go_enter Try.func37, Try.ntmps37
  go_wp2_with fail
  refine (H.out.byte ha).mono ?_
  rintro e w1 ⟨x, s2, rfl, hx, hs2, hx8, ht, hd⟩
  have R : Int.tmod (x : Int) (m : Int) = ((x % m : Nat) : Int) := tmod_nat x m
  obtain ⟨y, hy⟩ : ∃ y, x % m = y := ⟨_, rfl⟩
  rw [hy] at R
  have HY : Hid (y = byteX C a s % m ∧ s2 = byteS C a s) := ⟨by rw [← hy, hx], hs2⟩
  have TT : Hid (Turned P (P + 1) w w1 ∧ DrawE w1 P ca n cc (a + 1) s2 C) := ⟨ht, hd⟩
  clear ht hd hy hx hs2
  go_wp2_with fail
  go_ret
  exact ⟨y, s2, rfl, HY.out.1, HY.out.2, TT.out.1, TT.out.2⟩
set_option maxHeartbeats 2000000 in
theorem keepsE (P n cc : Nat) (ca : Option Addr) (C : List Nat) (w : World) (h : DrawE w P ca n cc 0 (C.length % 1000) C) :
    Calls Try.prog 27 #[.pointer (some ⟨P, 0, none⟩)] w fun e w' => ∃ v, e = .returned v ∧ w'.ownsRow w.heap.size 3 1 v (keepsM C).length (cellsI (keepsM C)) ∧ Turned P (P + 1) w w' := by
  have H : Hid (DrawE w P ca n cc 0 (C.length % 1000) C) := h
  have PL : Hid (P < w.heap.size) := h.lt
  have CB : Hid (0 < n → ∀ a, ca = some a → a.block < w.heap.size) := fun h0 a e => by
    rcases h.2.2.2.2.1 with h7 | ⟨b, o, e2, hc⟩
    · have h2 := cellsB_length C
      rw [h7] at h2
      simp only [List.length_nil] at h2
      have := h.2.1
      omega
    · rw [e2] at e
      cases e
      have h1 := World.block_lt_of_cell? _ _ (hc 0 (by rw [cellsB_length, h.2.1]; omega))
      exact h1
  clear h
  go_enter Try.func27, Try.ntmps27
  go_wp2_with fail
  have A0 : Hid (Below w.heap.size w (w.alloc (.cells #[] 3))) := (Below.refl _ _).alloc (Nat.le_refl _) _
  refine (nextE P n cc 0 (C.length % 1000) 12 ca C _ (by omega) (by omega) (by omega) (H.out.below A0.out)).mono ?_
  rintro e w1 ⟨x, s1, rfl, hx0, hs1, ht, hd⟩
  have hx : x < 12 := by rw [hx0]; exact Nat.mod_lt _ (by omega)
  have M1 : Hid (keepsM C = keepsR C x 1 s1) := by show _ = _; unfold keepsM; rw [hx0, hs1]
  clear hx0 hs1
  have O1 : Hid (w1.ownsRow w.heap.size 3 1 (.slice (some ⟨w.heap.size, 0, none⟩) 0 0) 0 (cellsI [])) := own_turned (top := w.heap.size + 1) (own_empty (w := w) rfl (Nat.le_refl _)) ht (fun k e => by have e2 : some w.heap.size = some k := e; injection e2 with e3; omega) (.inr (by have := PL.out; omega))
  have T1 : Hid (Turned P (P + 1) w w1) := (Turned.of_below A0.out).trans ht
  have D1 : Hid (DrawE w1 P ca n cc 1 s1 C) := hd
  clear ht hd
  go_wp2_with fail
  go_loopw [3, 4] (fun lv iv wr => ∃ (j a s : Nat) (u : Value) (L : List Int), u = lv ∧ iv = .int .i64 (j : Int) ∧ j + L.length ≤ 11 ∧ Hid (a + j ≤ 12 ∧ keepsM C = L ++ keepsR C j a s) ∧ Hid (Turned P (P + 1) w wr) ∧ Hid (DrawE wr P ca n cc a s C) ∧ Hid (wr.ownsRow w.heap.size 3 1 u L.length (cellsI L))) (fun _ i _ => (intOf i).toNat)
  case atStart => exact ⟨x, 1, s1, _, [], rfl, rfl, by simp; omega, ⟨by omega, M1.out⟩, T1.out, D1.out, O1.out⟩
  case round =>
    obtain ⟨j, a, s0, u, L, hu, rfl, hjl, hM, hT, hD, hO⟩ := hrel
    subst hu
    by_cases hj : 0 < j
    · have hj0 : (0 : Int) < (j : Int) := by omega
      obtain ⟨l, hl⟩ : ∃ l, L.length = l := ⟨_, rfl⟩
      have HL : Hid (L.length = l) := hl
      rw [hl] at hjl
      have hl5 : l ≤ 11 := by omega
      have hlt3 : Hid (∀ g, Value.ownBlock u = some g → w.heap.size ≤ g ∧ g < wr.heap.size) := fun g e => hO.out.lt g e
      clear hl
      go_wp2_with fail
      refine (nextE P n cc a s0 2 ca C _ (by omega) (by omega) (by have := hM.out.1; omega) hD.out).mono ?_
      rintro e w2 ⟨s, s2, rfl, hs, hs2, ht2, hd2⟩
      have M2 : Hid (a + 1 + (j - 1) ≤ 12 ∧ keepsM C = (L ++ [(s : Int)]) ++ keepsR C (j - 1) (a + 1) s2) := by
        refine ⟨by have := hM.out.1; omega, ?_⟩
        rw [hM.out.2, List.append_assoc]
        obtain ⟨i, rfl⟩ : ∃ i, j = i + 1 := ⟨j - 1, by omega⟩
        rw [hs, hs2]
        rfl
      have T2 : Hid (Turned P (P + 1) w w2) := hT.out.trans ht2
      have O2 : Hid (w2.ownsRow w.heap.size 3 1 u l (cellsI L)) := by
        have h9 := own_turned (top := wr.heap.size) hO.out ht2 (fun k e => (hlt3.out k e).2) (.inr (by have := PL.out; omega))
        rw [HL.out] at h9
        exact h9
      have D2 : Hid (DrawE w2 P ca n cc (a + 1) s2 C) := hd2
      have Z2 : Hid (w.heap.size ≤ w2.heap.size) := T2.out.size
      clear ht2 hd2 hs hs2 hD hO hT hM
      go_wp2_with (at_builtin; refine wpList_append_src _ rfl _ _ 25 rfl w.heap.size 3 (.int .i64 0) 1 8 Try.underlying25 infoI rfl (by decide) (by decide) _ l (cellsI L) rfl (O2.out.alloc _) (some ⟨w2.heap.size, 0, none⟩) 1 1 (cellsI [(s : Int)]) rfl rfl (src_oneI rfl) (cellsI_one _) (by omega) (le_alloc Z2.out _) ?_)
      intro v3 w3 hown3 hgrow3
      have B5 : Below w2.heap.size w2 (w2.alloc (.cells #[.int .i64 (s : Int)] 3)) := (Below.refl _ _).alloc (Nat.le_refl _) _
      have O3 : Hid (w3.ownsRow w.heap.size 3 1 v3 (L ++ [(s : Int)]).length (cellsI (L ++ [(s : Int)]))) := by rw [cellsI_append, List.length_append, HL.out]; exact hown3
      have T3 : Hid (Turned P (P + 1) w w3) := by
        have h9 : Turned P (P + 1) w (w2.alloc (.cells #[.int .i64 (s : Int)] 3)) := T2.out.trans (Turned.of_below B5)
        refine ⟨hgrow3.os.trans h9.os, hgrow3.tape.trans h9.tape, hgrow3.output.trans h9.output, Nat.le_trans h9.size hgrow3.size, fun k hk hr => ?_⟩
        rw [hgrow3.block k (Nat.lt_of_lt_of_le hk h9.size) (fun e => by have := (hlt3.out k e.symm).1; omega)]
        exact h9.block k hk hr
      have D3 : Hid (DrawE w3 P ca n cc (a + 1) s2 C) := DrawE.grown (D2.out.below B5) hgrow3 (fun e => by have := (hlt3.out P e).1; have := PL.out; omega) (fun h0 a e e2 => by have := (hlt3.out _ e2).1; have := CB.out h0 a e; omega)
      have LL : Hid ((L ++ [(s : Int)]).length = l + 1) := by show _ = _; rw [List.length_append, HL.out]; rfl
      clear hown3 hgrow3 B5
      go_wp2_with fail
      exact ⟨⟨j - 1, a + 1, s2, _, L ++ [(s : Int)], rfl, by go_num, by rw [LL.out]; omega, M2.out, T3.out, D3.out, O3.out⟩, by simp [intOf]; omega⟩
    · have hjz : j = 0 := by omega
      subst hjz
      go_wp2_with fail
      go_ret
      have E9 : keepsM C = L := by rw [hM.out.2]; simp [keepsR]
      exact ⟨_, rfl, by rw [E9]; exact hO.out, hT.out⟩
set_option maxHeartbeats 1000000 in
theorem sourceE (ca : Option Addr) (n cc : Nat) (C : List Nat) (w : World) (hC : C.length = n) (hn : n ≤ 1048576) (h8 : ∀ x ∈ C, x < 256) (hs : Src w ca (cellsB C)) :
    Calls Try.prog 17 #[.slice ca n cc] w fun e w' => e = .returned (.pointer (some ⟨w.heap.size, 0, none⟩)) ∧ w'.heap.size = w.heap.size + 1 ∧ Below w.heap.size w w' ∧ DrawE w' w.heap.size ca n cc 0 (C.length % 1000) C := by
  obtain ⟨s, hs9⟩ : ∃ s, n % 1000 = s := ⟨_, rfl⟩
  have hsl : s < 1000 := by rw [← hs9]; exact Nat.mod_lt _ (by omega)
  have R : Int.tmod (n : Int) 1000 = (s : Int) := by rw [← hs9]; exact tmod_nat n 1000
  have HC : Hid (C.length = n ∧ (∀ x ∈ C, x < 256) ∧ Src w ca (cellsB C) ∧ C.length % 1000 = s) := ⟨hC, h8, hs, by rw [hC, hs9]⟩
  clear hC h8 hs hs9
  go_enter Try.func17, Try.ntmps17
  go_wp2_with fail
  go_ret
  refine ⟨rfl, by simp, (Below.refl _ _).alloc (Nat.le_refl _) _, by rw [HC.out.2.2.2]; exact Box.new rfl, HC.out.1, hn, HC.out.2.1, HC.out.2.2.1.below ((Below.refl _ _).alloc (Nat.le_refl _) _), fun h0 a e => ?_, by omega, by rw [HC.out.2.2.2]; omega⟩
  rcases HC.out.2.2.1 with h | ⟨b, o, e2, hc⟩
  · have h2 := cellsB_length C
    rw [h] at h2
    simp only [List.length_nil] at h2
    have := HC.out.1
    omega
  · rw [e2] at e
    cases e
    have h1 := World.block_lt_of_cell? _ _ (hc 0 (by rw [cellsB_length, HC.out.1]; omega))
    dsimp only at h1 ⊢
    omega
theorem specKeepsOf (ca : Option Addr) (n cc : Nat) (C : List Nat) (w : World) (hC : C.length = n) (hn : n ≤ 1048576) (h8 : ∀ x ∈ C, x < 256) (hs : Src w ca (cellsB C)) :
    Calls Try.prog 11 #[.slice ca n cc] w fun e w' => ∃ a c, e = .returned (.slice a (keepsM C).length c) ∧ Src w' a (cellsI (keepsM C)) ∧ Below w.heap.size w w' := by
  go_enter Try.func11, Try.ntmps11
  go_wp2_with fail
  refine (sourceE ca n cc C _ hC hn h8 hs).mono ?_
  rintro e w1 ⟨rfl, hz1, hb1, hd1⟩
  have D1 : Hid (DrawE w1 w.heap.size ca n cc 0 (C.length % 1000) C) := hd1
  have B1 : Hid (Below w.heap.size w w1 ∧ w1.heap.size = w.heap.size + 1) := ⟨hb1, hz1⟩
  clear hd1 hb1 hz1
  go_wp2_with fail
  refine (keepsE w.heap.size n cc ca C _ D1.out).mono ?_
  rintro e w2 ⟨v, rfl, o2, ht2⟩
  obtain ⟨a, c, rfl, s2, _⟩ := own_src o2
  have S2 : Hid (Src w2 a (cellsI (keepsM C))) := s2
  have B2 : Hid (Below w.heap.size w w2) := Below.turned B1.out.1 ht2 (Nat.le_refl _) (Nat.le_refl _)
  clear o2 s2 ht2
  go_wp2_with fail
  go_ret
  exact ⟨a, c, rfl, S2.out, B2.out⟩
end Go.Proofs.Ytpbodiaglgkkkaa
