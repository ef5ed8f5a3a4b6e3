
/-
  What is drawn: bytes and numbers of a source. By an AI agent.
-/
import Derived.Test.YtmbndpgoihdpnaaGreatDoorBoxes
import Derived.Test.YtmbndpgoihdpnaaGreatDoorRa1
namespace Go.Proofs.YtmbndpgoihdpnaaGreatDoor
open Go.ChangeShapes Go.WideShapes Go.ChangeAt Go.RowKit Go.Deep
set_option linter.unusedVariables false
set_option maxRecDepth 100000

/-- A block holds three cells, no more. -/
def NoMore (w : World) (P : Nat) : Prop := ∀ i, 3 ≤ i → w.cell? ⟨P, i, none⟩ = none
theorem NoMore.set {w : World} {P : Nat} (h : NoMore w P) (j : Nat) (hj : j < 3) (v : Value) : NoMore (w.setCell ⟨P, j, none⟩ v) P := fun i hi => by
  rw [World.cell?_setCell_other _ _ _ _ (fun e => by cases e; omega)]
  exact h i hi
theorem NoMore.drewN {w : World} {P : Nat} (h : NoMore w P) (n : Nat) : NoMore (w.drewN n) P := h
/-- A source at block P: its code, its place, its seed. -/
def Draw (w : World) (P : Nat) (ca : Option Addr) (n cc K : Nat) : Prop :=
  ∃ at_ seed : Nat, Box w P [.slice ca n cc, .int .i64 (at_ : Int), .int .i64 (seed : Int)] ∧ at_ ≤ K ∧ seed < 2147483648 ∧ NoMore w P
theorem turned_set {lo hi : Nat} (w : World) (p : Addr) (h1 : lo ≤ p.block) (h2 : p.block < hi) (u : Value) : Turned lo hi w (w.setCell p u) :=
  ⟨rfl, rfl, rfl, by simp, fun k hk hr => Below.heap_setCell _ _ _ _ (by intro e; omega)⟩
theorem turned_drewN {lo hi : Nat} {w w' : World} (h : Turned lo hi w w') (n : Nat) : Turned lo hi w (w'.drewN n) := ⟨h.os, h.tape, h.output, h.size, h.block⟩
theorem tmod_nat (a b : Nat) : Int.tmod (a : Int) (b : Int) = ((a % b : Nat) : Int) := by
  rw [Int.tmod_eq_emod_of_nonneg (by omega)]; simp
set_option maxHeartbeats 2000000 in
theorem drawByte (P n cc K : Nat) (ca : Option Addr) (C : List Nat) (w : World) (hC : C.length = n) (hn : n ≤ 1048577) (h8 : ∀ x ∈ C, x < 256) (hs : Src w ca (cellsB C)) (hP : 0 < n → ∀ a, ca = some a → a.block ≠ P) (hK : K ≤ 1000000000) (hx : Draw w P ca n cc K) :
    Calls Tryz.prog 118 #[.pointer (some ⟨P, 0, none⟩)] w fun e w' => ∃ x : Nat, e = .returned (.int .i64 (x : Int)) ∧ x < 256 ∧ Turned P (P + 1) w w' ∧ Draw w' P ca n cc (K + 1) := by
  obtain ⟨at_, seed, hbox, hat, hsd, hnm⟩ := hx
  have HNM : Hid (NoMore w P) := hnm
  clear hnm
  have HB : Hid (Box w P [.slice ca n cc, .int .i64 (at_ : Int), .int .i64 (seed : Int)]) := hbox
  have HC : Hid (C.length = n ∧ (∀ x ∈ C, x < 256) ∧ Src w ca (cellsB C) ∧ (0 < n → ∀ a, ca = some a → a.block ≠ P)) := ⟨hC, h8, hs, hP⟩
  obtain ⟨c0, c0f⟩ := hbox 0 _ rfl
  obtain ⟨c1, c1f⟩ := hbox 1 _ rfl
  obtain ⟨c2, c2f⟩ := hbox 2 _ rfl
  have T0 : Hid (Turned P (P + 1) w (w.setCell ⟨P, 1, none⟩ (.int .i64 ((at_ : Int) + 1)))) := turned_set w ⟨P, 1, none⟩ (by dsimp only; omega) (by dsimp only; omega) _
  have B1 : Hid (Box (w.setCell ⟨P, 1, none⟩ (.int .i64 ((at_ : Int) + 1))) P [.slice ca n cc, .int .i64 ((at_ : Int) + 1), .int .i64 (seed : Int)]) := hbox.set 1 _
  obtain ⟨d0, d0f⟩ := B1.out 0 _ rfl
  obtain ⟨d1, d1f⟩ := B1.out 1 _ rfl
  obtain ⟨d2, d2f⟩ := B1.out 2 _ rfl
  clear hC h8 hs hP hbox
  by_cases t1 : at_ < n
  · have hle : (at_ : Int) + 1 ≤ (n : Int) := by omega
    have hdec : decide ((at_ : Int) + 1 ≤ (n : Int)) = true := decide_eq_true hle
    obtain ⟨b, o, rfl, hcell⟩ : ∃ b o, ca = some ⟨b, o, none⟩ ∧ (w.setCell ⟨P, 1, none⟩ (.int .i64 ((at_ : Int) + 1))).cell? ⟨b, o + at_, none⟩ = some (.int .u8 ((C.getD at_ 0 : Nat) : Int)) := by
      rcases HC.out.2.2.1 with h | ⟨b, o, rfl, hc⟩
      · have h2 := cellsB_length C
        rw [h] at h2
        simp only [List.length_nil] at h2
        have := HC.out.1
        omega
      · refine ⟨b, o, rfl, ?_⟩
        have hne := HC.out.2.2.2 (by omega) _ rfl
        rw [World.cell?_setCell_other _ _ _ _ (fun e => hne (congrArg Addr.block e).symm), hc at_ (by rw [cellsB_length, HC.out.1]; exact t1), getD_some (cellsB_get C at_ (by rw [HC.out.1]; exact t1))]
    obtain ⟨y, hy⟩ : ∃ y, C.getD at_ 0 = y := ⟨_, rfl⟩
    rw [hy] at hcell
    have hy8 : y < 256 := by
      rw [← hy, List.getD_eq_getElem?_getD, List.getElem?_eq_getElem (by rw [HC.out.1]; exact t1)]
      exact HC.out.2.1 _ (List.getElem_mem _)
    obtain ⟨s2, hs2⟩ : ∃ s2, (seed * 31 + y + 7) % 2147483648 = s2 := ⟨_, rfl⟩
    have hs2l : s2 < 2147483648 := by rw [← hs2]; exact Nat.mod_lt _ (by omega)
    have R : Int.tmod ((seed : Int) * 31 + (y : Int) + 7) 2147483648 = (s2 : Int) := by
      have h9 := tmod_nat (seed * 31 + y + 7) 2147483648
      rw [hs2] at h9
      have e9 : (((seed * 31 + y + 7 : Nat)) : Int) = (seed : Int) * 31 + (y : Int) + 7 := by omega
      rw [e9] at h9
      exact h9
    have i0 : (0 : Int) ≤ (at_ : Int) + 1 - 1 := by omega
    have i1 : (at_ : Int) + 1 - 1 < (n : Int) := by omega
    have i2 : (at_ : Int) + 1 - 1 = (at_ : Int) := by omega
    have FACTS : Hid (∀ N W2, ((w.setCell ⟨P, 1, none⟩ (.int .i64 ((at_ : Int) + 1))).drewN N).setCell ⟨P, 2, none⟩ (.int .i64 (s2 : Int)) = W2 → Box W2 P [.slice (some ⟨b, o, none⟩) n cc, .int .i64 ((at_ : Int) + 1), .int .i64 (s2 : Int)] ∧ W2.cell? ⟨b, o + at_, none⟩ = some (.int .u8 (y : Int)) ∧ Turned P (P + 1) w W2) := fun N W2 e => by
      subst e
      have hne : b ≠ P := HC.out.2.2.2 (by omega) _ rfl
      refine ⟨Box.set (w := (w.setCell ⟨P, 1, none⟩ (.int .i64 ((at_ : Int) + 1))).drewN N) B1.out 2 _, ?_, (turned_drewN T0.out N).trans (turned_set _ ⟨P, 2, none⟩ (by dsimp only; omega) (by dsimp only; omega) _)⟩
      rw [World.cell?_setCell_other _ _ _ _ (fun e => hne (congrArg Addr.block e).symm)]
      exact hcell
    clear hs2 hy
    go_enter Tryz.func118, Tryz.ntmps118
    go_wp2_with fail
    go_quiet (fail)
    go_wp2_with fail
    go_region
    all_goals go_wp2_with fail
    all_goals
      generalize hW : World.setCell (World.drewN _ _) _ _ = W2
      obtain ⟨g1, g2, g3⟩ := FACTS.out _ _ hW
      have G1 : Hid (Box W2 P [.slice (some ⟨b, o, none⟩) n cc, .int .i64 ((at_ : Int) + 1), .int .i64 (s2 : Int)]) := g1
      have G3 : Hid (Turned P (P + 1) w W2) := g3
      have G4 : Hid (NoMore W2 P) := by show NoMore _ _; rw [← hW]; exact NoMore.set ((NoMore.set HNM.out 1 (by omega) _).drewN _) 2 (by omega) _
      obtain ⟨f0, _⟩ := g1 0 _ rfl
      obtain ⟨f1, _⟩ := g1 1 _ rfl
      clear hW g1 g3 c0 c1 c2 d0 d1 d2 c0f c1f c2f d0f d1f d2f hcell
      go_quiet (fail)
      go_wp2_with fail
      go_ret
      exact ⟨y, rfl, hy8, turned_drewN G3.out _, at_ + 1, s2, G1.out, by omega, hs2l, G4.out⟩
  have hle : ¬ (at_ : Int) + 1 ≤ (n : Int) := by omega
  have hdec : decide ((at_ : Int) + 1 ≤ (n : Int)) = false := decide_eq_false hle
  by_cases t2 : (3000 : Int) < (at_ : Int) + 1
  · go_enter Tryz.func118, Tryz.ntmps118
    go_wp2_with fail
    go_quiet (fail)
    go_wp2_with fail
    go_ret
    exact ⟨0, rfl, by omega, turned_drewN T0.out _, at_ + 1, seed, B1.out, by omega, hsd, (NoMore.set HNM.out 1 (by omega) _).drewN _⟩
  obtain ⟨s2, hs2⟩ : ∃ s2, (seed * 1103515245 + 12345) % 2147483648 = s2 := ⟨_, rfl⟩
  have hs2l : s2 < 2147483648 := by rw [← hs2]; exact Nat.mod_lt _ (by omega)
  have R : Int.tmod ((seed : Int) * 1103515245 + 12345) 2147483648 = (s2 : Int) := by
    have h9 := tmod_nat (seed * 1103515245 + 12345) 2147483648
    rw [hs2] at h9
    have e9 : (((seed * 1103515245 + 12345 : Nat)) : Int) = (seed : Int) * 1103515245 + 12345 := by omega
    rw [e9] at h9
    exact h9
  obtain ⟨x, hx9⟩ : ∃ x, s2 / 65536 % 256 = x := ⟨_, rfl⟩
  have hxl : x < 256 := by rw [← hx9]; exact Nat.mod_lt _ (by omega)
  have Q : (s2 : Int) / 65536 % 256 = (x : Int) := by rw [← hx9]; omega
  clear hs2 hx9
  go_enter Tryz.func118, Tryz.ntmps118
  go_wp2_with fail
  go_quiet (fail)
  go_wp2_with fail
  go_ret
  exact ⟨x, by show Ending.returned (.int .i64 ((s2 : Int) / 65536 % 256)) = _; rw [Q], hxl, (turned_drewN T0.out _).trans (turned_set _ ⟨P, 2, none⟩ (by dsimp only; omega) (by dsimp only; omega) _), at_ + 1, s2, Box.set (w := (w.setCell ⟨P, 1, none⟩ (.int .i64 ((at_ : Int) + 1))).drewN _) B1.out 2 _, by omega, hs2l, NoMore.set ((NoMore.set HNM.out 1 (by omega) _).drewN _) 2 (by omega) _⟩

theorem Src.turned {w w' : World} {lo hi : Nat} {a : Option Addr} {xs : List Value} (h : Src w a xs) (ht : Turned lo hi w w') (hP : 0 < xs.length → ∀ ad, a = some ad → ad.block < lo ∨ hi ≤ ad.block) : Src w' a xs := by
  rcases h with h | ⟨b, o, rfl, hc⟩
  · exact .inl h
  · refine .inr ⟨b, o, rfl, fun j hj => ?_⟩
    have h1 := hc j hj
    have hlt := World.block_lt_of_cell? _ _ h1
    dsimp only at hlt
    rw [← h1]
    exact World.cell?_of_block (a := ⟨b, o + j, none⟩) (ht.block b hlt (hP (by omega) _ rfl))
/-- A source with its code. -/
def DrawOK (w : World) (P : Nat) (ca : Option Addr) (n cc K : Nat) (C : List Nat) : Prop :=
  Draw w P ca n cc K ∧ C.length = n ∧ n ≤ 1048577 ∧ (∀ x ∈ C, x < 256) ∧ Src w ca (cellsB C) ∧ (0 < n → ∀ a, ca = some a → a.block ≠ P)
theorem DrawOK.byte {w : World} {P n cc K : Nat} {ca : Option Addr} {C : List Nat} (h : DrawOK w P ca n cc K C) (hK : K ≤ 1000000000) :
    Calls Tryz.prog 118 #[.pointer (some ⟨P, 0, none⟩)] w fun e w' => ∃ x : Nat, e = .returned (.int .i64 (x : Int)) ∧ x < 256 ∧ Turned P (P + 1) w w' ∧ DrawOK w' P ca n cc (K + 1) C := by
  obtain ⟨h1, h2, h3, h4, h5, h6⟩ := h
  refine (drawByte P n cc K ca C w h2 h3 h4 h5 h6 hK h1).mono ?_
  rintro e w' ⟨x, rfl, hx, ht, hd⟩
  exact ⟨x, rfl, hx, ht, hd, h2, h3, h4, h5.turned ht (fun hl ad e => by have := h6 (by rw [cellsB_length] at hl; omega) ad e; omega), h6⟩
set_option maxHeartbeats 1000000 in
theorem drawNext (P n cc K m : Nat) (ca : Option Addr) (C : List Nat) (w : World) (hm : 1 ≤ m) (hm2 : m ≤ 1000000) (hK : K ≤ 999999990) (h : DrawOK w P ca n cc K C) :
    Calls Tryz.prog 87 #[.pointer (some ⟨P, 0, none⟩), .int .i64 (m : Int)] w fun e w' => ∃ x : Nat, e = .returned (.int .i64 (x : Int)) ∧ x < m ∧ Turned P (P + 1) w w' ∧ DrawOK w' P ca n cc (K + 3) C := by
  have mono : ∀ {w9 : World} {K1 K2 : Nat}, K1 ≤ K2 → DrawOK w9 P ca n cc K1 C → DrawOK w9 P ca n cc K2 C := fun hk ⟨⟨a, s, h1, h2, h3⟩, h4⟩ => ⟨⟨a, s, h1, by omega, h3⟩, h4⟩
  have MO : Hid (∀ {w9 : World} {K1 K2 : Nat}, K1 ≤ K2 → DrawOK w9 P ca n cc K1 C → DrawOK w9 P ca n cc K2 C) := mono
  have H : Hid (DrawOK w P ca n cc K C) := h
  clear mono h
  by_cases t1 : (m : Int) ≤ 1
  · go_enter Tryz.func87, Tryz.ntmps87
    go_wp2_with fail
    go_ret
    exact ⟨0, rfl, by omega, Turned.of_below (Below.refl _ _), MO.out (by omega) H.out⟩
  have hmz : ¬ (m : Int) = 0 := by omega
  have hmz2 : ¬ m = 0 := by omega
  by_cases t2 : (m : Int) ≤ 256
  · go_enter Tryz.func87, Tryz.ntmps87
    go_wp2_with fail
    refine (H.out.byte (by omega)).mono ?_
    rintro e w1 ⟨x, rfl, hx, ht, hd⟩
    have R : Int.tmod (x : Int) (m : Int) = ((x % m : Nat) : Int) := tmod_nat x m
    obtain ⟨y, hy⟩ : ∃ y, x % m = y := ⟨_, rfl⟩
    rw [hy] at R
    have hyl : Hid (y < m) := by show y < m; rw [← hy]; exact Nat.mod_lt _ (by omega)
    have TT : Hid (Turned P (P + 1) w w1 ∧ DrawOK w1 P ca n cc (K + 1) C) := ⟨ht, hd⟩
    clear ht hd hy
    go_wp2_with fail
    go_ret
    exact ⟨y, rfl, hyl.out, TT.out.1, MO.out (by omega) TT.out.2⟩
  go_enter Tryz.func87, Tryz.ntmps87
  go_wp2_with fail
  refine (H.out.byte (by omega)).mono ?_
  rintro e w1 ⟨x1, rfl, hx1, ht1, hd1⟩
  have T1 : Hid (Turned P (P + 1) w w1 ∧ DrawOK w1 P ca n cc (K + 1) C) := ⟨ht1, hd1⟩
  clear ht1 hd1
  go_wp2_with fail
  refine (T1.out.2.byte (by omega)).mono ?_
  rintro e w2 ⟨x2, rfl, hx2, ht2, hd2⟩
  have T2 : Hid (Turned P (P + 1) w w2 ∧ DrawOK w2 P ca n cc (K + 1 + 1) C) := ⟨T1.out.1.trans ht2, hd2⟩
  clear ht2 hd2
  go_wp2_with fail
  refine (T2.out.2.byte (by omega)).mono ?_
  rintro e w3 ⟨x3, rfl, hx3, ht3, hd3⟩
  have T3 : Hid (Turned P (P + 1) w w3 ∧ DrawOK w3 P ca n cc (K + 1 + 1 + 1) C) := ⟨T2.out.1.trans ht3, hd3⟩
  clear ht3 hd3
  have R : Int.tmod ((x1 : Int) * 65536 + (x2 : Int) * 256 + (x3 : Int)) (m : Int) = (((x1 * 65536 + x2 * 256 + x3) % m : Nat) : Int) := by
    have h9 := tmod_nat (x1 * 65536 + x2 * 256 + x3) m
    have e9 : (((x1 * 65536 + x2 * 256 + x3 : Nat)) : Int) = (x1 : Int) * 65536 + (x2 : Int) * 256 + (x3 : Int) := by omega
    rw [e9] at h9
    exact h9
  obtain ⟨y, hy⟩ : ∃ y, (x1 * 65536 + x2 * 256 + x3) % m = y := ⟨_, rfl⟩
  rw [hy] at R
  have hyl : Hid (y < m) := by show y < m; rw [← hy]; exact Nat.mod_lt _ (by omega)
  clear hy
  go_wp2_with fail
  go_ret
  exact ⟨y, rfl, hyl.out, T3.out.1, T3.out.2⟩
set_option maxHeartbeats 1000000 in
theorem drawPick (P n cc K : Nat) (ca : Option Addr) (C : List Nat) (b o l c : Nat) (L : List ByteArray) (w : World) (hL : L.length = l) (hl : 1 ≤ l) (hl2 : l ≤ 1000) (hK : K ≤ 999999990) (hb : b ≠ P) (hs : Src w (some ⟨b, o, none⟩) (cellsS L)) (h : DrawOK w P ca n cc K C) :
    Calls Tryz.prog 90 #[.pointer (some ⟨P, 0, none⟩), .slice (some ⟨b, o, none⟩) l c] w fun e w' => ∃ s : ByteArray, e = .returned (.string s) ∧ s ∈ L ∧ Turned P (P + 1) w w' ∧ DrawOK w' P ca n cc (K + 3) C := by
  have H : Hid (DrawOK w P ca n cc K C) := h
  have HS : Hid (Src w (some ⟨b, o, none⟩) (cellsS L) ∧ L.length = l) := ⟨hs, hL⟩
  have hl0 : ((l : Int) == 0) = false := by simp; omega
  clear h hs hL
  go_enter Tryz.func90, Tryz.ntmps90
  go_wp2_with fail
  refine (drawNext P n cc K l ca C _ hl (by omega) hK H.out).mono ?_
  rintro e w1 ⟨x, rfl, hx, ht, hd⟩
  have T1 : Hid (Turned P (P + 1) w w1 ∧ DrawOK w1 P ca n cc (K + 3) C) := ⟨ht, hd⟩
  obtain ⟨b', o', y, e', yc, hy⟩ := srcS (HS.out.1.turned ht (fun _ ad e => by cases e; dsimp only; omega)) (i := x) (by rw [HS.out.2]; exact hx)
  cases e'
  have HY : Hid (y ∈ L) := by
    rw [← hy.out, List.getD_eq_getElem?_getD, List.getElem?_eq_getElem (by rw [HS.out.2]; exact hx)]
    exact List.getElem_mem _
  have i0 : (0 : Int) ≤ (x : Int) := by omega
  have i1 : (x : Int) < (l : Int) := by omega
  clear ht hd
  go_wp2_with fail
  go_ret
  exact ⟨y, rfl, HY.out, T1.out.1, T1.out.2⟩
end Go.Proofs.YtmbndpgoihdpnaaGreatDoor
