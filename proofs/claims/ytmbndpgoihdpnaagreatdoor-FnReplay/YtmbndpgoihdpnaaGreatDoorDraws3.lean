
/-
  Keys and pairs that are drawn. By an AI agent.
-/
import Derived.Test.YtmbndpgoihdpnaaGreatDoorDraws2
import Derived.Test.YtmbndpgoihdpnaaGreatDoorPmod
namespace Go.Proofs.YtmbndpgoihdpnaaGreatDoor
open Go.ChangeShapes Go.WideShapes Go.ChangeAt Go.RowKit Go.Deep
set_option linter.unusedVariables false
set_option maxRecDepth 100000

def drawn12 : List ByteArray := [⟨#[97]⟩, ⟨#[97, 98]⟩, ⟨#[97, 98, 99]⟩, ⟨#[98]⟩, ⟨#[98, 47, 49]⟩, ⟨#[98, 47, 50]⟩, ⟨#[99]⟩, ⟨#[100]⟩, ⟨#[101]⟩, ⟨#[102]⟩, ⟨#[103]⟩, ⟨#[104]⟩]
def drawn3 : List ByteArray := [⟨#[]⟩, ⟨#[49]⟩, ⟨#[118, 97, 108, 117, 101]⟩]
theorem drawn12_key : ∀ s ∈ drawn12, keyB s = true := by
  intro s hs
  simp [drawn12] at hs
  rcases hs with rfl | rfl | rfl | rfl | rfl | rfl | rfl | rfl | rfl | rfl | rfl | rfl <;> decide
theorem drawn3_small : ∀ s ∈ drawn3, s.size ≤ 90 := by
  intro s hs
  simp [drawn3] at hs
  rcases hs with rfl | rfl | rfl <;> decide
set_option maxHeartbeats 1000000 in
theorem drawKey (P n cc K : Nat) (ca : Option Addr) (C : List Nat) (w : World) (hK : K ≤ 999000000) (h : DrawOK w P ca n cc K C) :
    Calls Tryz.prog 89 #[.pointer (some ⟨P, 0, none⟩)] w fun e w' => ∃ s : ByteArray, e = .returned (.string s) ∧ keyB s = true ∧ Turned P (P + 1) w w' ∧ DrawOK w' P ca n cc (K + 3) C := by
  have H : Hid (DrawOK w P ca n cc K C) := h
  have PL : Hid (P < w.heap.size) := h.lt
  clear h
  go_enter Tryz.func89, Tryz.ntmps89
  go_wp2_with fail
  have B4 : Hid (Below w.heap.size w (w.alloc (.cells #[.string ⟨#[97]⟩, .string ⟨#[97, 98]⟩, .string ⟨#[97, 98, 99]⟩, .string ⟨#[98]⟩, .string ⟨#[98, 47, 49]⟩, .string ⟨#[98, 47, 50]⟩, .string ⟨#[99]⟩, .string ⟨#[100]⟩, .string ⟨#[101]⟩, .string ⟨#[102]⟩, .string ⟨#[103]⟩, .string ⟨#[104]⟩] 9))) := (Below.refl _ _).alloc (Nat.le_refl _) _
  refine (drawPick P n cc K ca C w.heap.size 0 12 12 drawn12 _ rfl (by omega) (by omega) (by omega) (by have := PL.out; omega) (src_list rfl _ rfl) (H.out.below B4.out)).mono ?_
  rintro e w1 ⟨s, rfl, hs, ht, hd⟩
  have T1 : Hid (Turned P (P + 1) w w1 ∧ DrawOK w1 P ca n cc (K + 3) C ∧ keyB s = true) := ⟨(Turned.of_below B4.out).trans ht, hd, drawn12_key s hs⟩
  clear ht hd hs
  go_wp2_with fail
  go_ret
  exact ⟨s, rfl, T1.out.2.2, T1.out.1, T1.out.2.1⟩
theorem Sp.turned {w w' : World} {lo hi n : Nat} {a : Option Addr} {f g : Nat → ByteArray} (h : Sp w a n f g) (ht : Turned lo hi w w') (hP : ∀ ad, a = some ad → ad.block < lo ∨ hi ≤ ad.block) : Sp w' a n f g := by
  rcases h with h | ⟨b, o, rfl, hc⟩
  · exact .inl h
  · refine .inr ⟨b, o, rfl, fun i hi => ?_⟩
    obtain ⟨h1, h2⟩ := hc i hi
    have hlt := World.block_lt_of_cell? _ _ h1
    have hbk := ht.block b hlt (hP _ rfl)
    exact ⟨(World.cell?_of_block (w := w) (a := ⟨b, o + i * 2, none⟩) hbk).trans h1, (World.cell?_of_block (w := w) (a := ⟨b, o + i * 2 + 1, none⟩) hbk).trans h2⟩
set_option maxHeartbeats 2000000 in
theorem drawPairs (P n cc K : Nat) (ca : Option Addr) (C : List Nat) (w : World) (hK : K ≤ 990000000) (h : DrawOK w P ca n cc K C) :
    Calls Tryz.prog 57 #[.pointer (some ⟨P, 0, none⟩)] w fun e w' => ∃ b c L, e = .returned (.slice (some ⟨b, 0, none⟩) L.length c) ∧ L.length ≤ c ∧ c ≤ maxLen ∧ Sp w' (some ⟨b, 0, none⟩) L.length (fstL L) (sndL L) ∧ b < w'.heap.size ∧ L.length ≤ 11 ∧ GoodL L ∧ Turned P (P + 1) w w' := by
  have H : Hid (DrawOK w P ca n cc K C) := h
  have PL : Hid (P < w.heap.size) := h.lt
  clear h
  go_enter Tryz.func57, Tryz.ntmps57
  go_wp2_with fail
  have A0 : Hid (Below w.heap.size w (w.alloc (.cells #[] 70))) := (Below.refl _ _).alloc (Nat.le_refl _) _
  refine (drawNext P n cc K 12 ca C _ (by omega) (by omega) (by omega) (H.out.below A0.out)).mono ?_
  rintro e w1 ⟨x, rfl, hx, ht, hd⟩
  have T1 : Hid (Turned P (P + 1) w w1) := (Turned.of_below A0.out).trans ht
  have D1 : Hid (DrawOK w1 P ca n cc (K + 3) C) := hd
  have Z1 : Hid (w.heap.size < w1.heap.size) := by have := ht.size; simp at this; show _ < _; omega
  clear ht hd
  go_wp2_with fail
  go_loopw [3, 4] (fun lv iv wr => ∃ (j b c : Nat) (L : List PM), lv = .slice (some ⟨b, 0, none⟩) L.length c ∧ iv = .int .i64 (j : Int) ∧ j + L.length ≤ 11 ∧ Hid (L.length ≤ c ∧ c ≤ maxLen) ∧ Hid (GoodL L) ∧ Hid (Turned P (P + 1) w wr) ∧ Hid (DrawOK wr P ca n cc (K + 3 + 6 * (11 - j)) C) ∧ Hid (Sp wr (some ⟨b, 0, none⟩) L.length (fstL L) (sndL L) ∧ b < wr.heap.size ∧ w.heap.size ≤ b)) (fun _ i _ => (intOf i).toNat)
  case atStart =>
    refine ⟨x, w.heap.size, 0, [], rfl, rfl, by simp; omega, ⟨Nat.le_refl _, by simp⟩, GoodL.nil, T1.out, D1.out.more (by omega), .inl rfl, Z1.out, Nat.le_refl _⟩
  case round =>
    obtain ⟨j, b, c, L, rfl, rfl, hjl, hc, hg, hT, hD, hS⟩ := hrel
    obtain ⟨l, hl⟩ : ∃ l, L.length = l := ⟨_, rfl⟩
    have HL : Hid (L.length = l) := hl
    rw [hl] at hjl hc hS ⊢
    clear hl
    by_cases hj : 0 < j
    · have hj0 : (0 : Int) < (j : Int) := by omega
      have WS : Hid (w.heap.size ≤ wr.heap.size) := hT.out.size
      go_wp2_with fail
      refine (drawKey P n cc (K + 3 + 6 * (11 - j)) ca C _ (by omega) hD.out).mono ?_
      rintro e w2 ⟨key, rfl, hk2, ht2, hd2⟩
      have T2 : Hid (Turned P (P + 1) w w2 ∧ keyB key = true) := ⟨hT.out.trans ht2, hk2⟩
      have D2 : Hid (DrawOK w2 P ca n cc (K + 3 + 6 * (11 - j) + 3) C) := hd2
      have Z2 : Hid (wr.heap.size ≤ w2.heap.size) := ht2.size
      have S2 : Hid (Sp w2 (some ⟨b, 0, none⟩) l (fstL L) (sndL L)) := hS.out.1.turned ht2 (fun ad e => by cases e; have := PL.out; have := hS.out.2.2; dsimp only; omega)
      have B4 : Hid (Below w2.heap.size w2 (w2.alloc (.cells #[.string ⟨#[]⟩, .string ⟨#[49]⟩, .string ⟨#[118, 97, 108, 117, 101]⟩] 9))) := (Below.refl _ _).alloc (Nat.le_refl _) _
      clear ht2 hd2 hk2 hD
      go_wp2_with fail
      refine (drawPick P n cc (K + 3 + 6 * (11 - j) + 3) ca C w2.heap.size 0 3 3 drawn3 _ rfl (by omega) (by omega) (by omega) (by have := PL.out; have := WS.out; have := Z2.out; omega) (src_list rfl _ rfl) (D2.out.below B4.out)).mono ?_
      rintro e w3 ⟨val, rfl, hv3, ht3, hd3⟩
      have T3 : Hid (Turned P (P + 1) w w3 ∧ val.size ≤ 90) := ⟨T2.out.1.trans ((Turned.of_below B4.out).trans ht3), drawn3_small val hv3⟩
      have D3 : Hid (DrawOK w3 P ca n cc (K + 3 + 6 * (11 - j) + 3 + 3) C) := hd3
      have S3 : Hid (Sp w3 (some ⟨b, 0, none⟩) l (fstL L) (sndL L)) := (S2.out.below B4.out).turned ht3 (fun ad e => by cases e; have := PL.out; have := hS.out.2.2; dsimp only; omega)
      obtain ⟨p, hp⟩ := place_exists (fstL L) key l
      have HP : Hid (IsPlace (fstL L) l key p) := hp
      clear ht3 hd3 hv3 D2 S2 B4 hp
      go_wp2_with fail
      refine (l01PutC b 0 l c (fstL L) (sndL L) key val p _ (by omega) hc.out.1 hc.out.2 HP.out S3.out).mono ?_
      rintro e w4 ⟨v, rfl, ho, hb4⟩
      obtain ⟨M, hM⟩ : ∃ M, putL (fstL L) (sndL L) l key val p = M := ⟨_, rfl⟩
      have hml : 0 < M.length ∧ M.length ≤ l + 1 := by
        have h9 := putL_length (fstL L) (sndL L) l key val p HP.out.1
        rw [hM] at h9
        have h8 : p ≤ l := HP.out.1
        rw [h9]
        by_cases h7 : hitB (fstL L) l key p = true
        · rw [if_pos h7]
          unfold hitB at h7
          simp at h7
          omega
        · rw [if_neg h7]
          omega
      have G : Hid (GoodL M) := by
        have h9 := put_good hg.out T2.out.2 T3.out.2 (p := p) (by rw [HL.out]; exact HP.out)
        rw [HL.out, hM] at h9
        exact h9
      rw [hM] at ho
      obtain ⟨b2, c2, rfl, q1, q2, q3, q4, q5⟩ := ho.someP hml.1
      have Q : Hid ((M.length ≤ c2 ∧ c2 ≤ maxLen) ∧ Sp w4 (some ⟨b2, 0, none⟩) M.length (fstL M) (sndL M) ∧ b2 < w4.heap.size ∧ w.heap.size ≤ b2) := ⟨⟨q1, q2⟩, q5, q4, Nat.le_trans T3.out.1.size q3⟩
      have T4 : Hid (Turned P (P + 1) w w4) := T3.out.1.trans (Turned.of_below hb4)
      have D4 : Hid (DrawOK w4 P ca n cc (K + 3 + 6 * (11 - (j - 1))) C) := (D3.out.below hb4).more (by omega)
      have ML : Hid (M.length ≤ l + 1) := hml.2
      clear ho hb4 q1 q2 q3 q4 q5 hml hM
      go_wp2_with fail
      exact ⟨⟨j - 1, b2, c2, M, rfl, by go_num, by have := ML.out; omega, Q.out.1, G.out, T4.out, D4.out, Q.out.2⟩, by simp [intOf]; omega⟩
    · have hjz : j = 0 := by omega
      subst hjz
      go_wp2_with fail
      go_ret
      exact ⟨b, c, L, by rw [HL.out]; rfl, by rw [HL.out]; exact hc.out.1, hc.out.2, by rw [HL.out]; exact hS.out.1, hS.out.2.1, by rw [HL.out]; omega, hg.out, hT.out⟩
theorem specPairsOf (ca : Option Addr) (n cc : Nat) (C : List Nat) (w : World) (hC : C.length = n) (hn : n ≤ 1048576) (h8 : ∀ x ∈ C, x < 256) (hs : Src w ca (cellsB C)) :
    Calls Tryz.prog 30 #[.slice ca n cc] w fun e w' => ∃ b c L, e = .returned (.slice (some ⟨b, 0, none⟩) L.length c) ∧ L.length ≤ c ∧ c ≤ maxLen ∧ Sp w' (some ⟨b, 0, none⟩) L.length (fstL L) (sndL L) ∧ L.length ≤ 11 ∧ GoodL L ∧ Below w.heap.size w w' := by
  go_enter Tryz.func30, Tryz.ntmps30
  go_wp2_with fail
  refine (l00Source ca n cc C _ hC (by omega) h8 hs).mono ?_
  rintro e w1 ⟨rfl, hz1, hb1, hd1⟩
  have D1 : Hid (DrawOK w1 w.heap.size ca n cc 0 C) := hd1
  have B1 : Hid (Below w.heap.size w w1 ∧ w1.heap.size = w.heap.size + 1) := ⟨hb1, hz1⟩
  clear hd1 hb1 hz1
  go_wp2_with fail
  refine (drawPairs w.heap.size n cc 0 ca C _ (by omega) D1.out).mono ?_
  rintro e w2 ⟨b, c, L, rfl, q1, q2, q3, q4, q5, q6, ht2⟩
  have Q : Hid (L.length ≤ c ∧ c ≤ maxLen ∧ Sp w2 (some ⟨b, 0, none⟩) L.length (fstL L) (sndL L) ∧ L.length ≤ 11 ∧ GoodL L) := ⟨q1, q2, q3, q5, q6⟩
  have B2 : Hid (Below w.heap.size w w2) := Below.turned B1.out.1 ht2 (Nat.le_refl _) (Nat.le_refl _)
  clear q1 q2 q3 q4 q5 q6 ht2
  go_wp2_with fail
  go_ret
  exact ⟨b, c, L, rfl, Q.out.1, Q.out.2.1, Q.out.2.2.1, Q.out.2.2.2.1, Q.out.2.2.2.2, B2.out⟩
end Go.Proofs.YtmbndpgoihdpnaaGreatDoor
