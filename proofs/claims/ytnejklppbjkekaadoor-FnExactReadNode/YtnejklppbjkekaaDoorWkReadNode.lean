/-
  The walk of the law FnExactReadNode.
  By an AI agent.
-/
import Derived.Test.YtnejklppbjkekaaDoorRnu
import Derived.Test.YtnejklppbjkekaaDoorMkn
namespace Go.Proofs.YtnejklppbjkekaaDoor.fnExactReadNode
open Go.ChangeShapes Go.WideShapes Go.ChangeAt Go.WideMaps Go.WideElems Go.RowKit Go.Deep
open Go.ChangeMaps (open_string shut_string)
set_option linter.unusedVariables false

theorem readN_len {B : List Nat} {D : NM} {q : Int} (h8 : ∀ x ∈ B, x < 256) (h : readN B = (D, q)) : wtN D ≤ 1048576 := by
  unfold readN at h
  split at h
  · cases h; decide
  · split at h
    · cases h; decide
    · cases ha : nodeA (bodyB B) with
      | none => rw [ha] at h; cases h; decide
      | some E =>
        rw [ha] at h
        by_cases hc : freeB E = true ∨ okB E = false
        · simp [hc] at h
          obtain ⟨rfl, _⟩ := h
          decide
        · simp [hc] at h
          obtain ⟨rfl, _⟩ := h
          exact (nodeA_small (fun x hx => h8 x (List.mem_of_mem_take hx)) ha).1
set_option maxHeartbeats 400000 in
theorem toByteX (a : Option Addr) (n c : Nat) (L : List Nat) (w : World) (hL : L.length = n) (hn : n ≤ 1048576) (h : Src w a (cellsB L)) :
    Calls Tryd.prog 32 #[.slice a n c] w fun e w' => ∃ g, e = .returned (.slice (some ⟨g, 0, none⟩) n n) ∧ w'.ownsRow w.heap.size 5 1 (.slice (some ⟨g, 0, none⟩) n n) n (cellsB L) ∧ Below w.heap.size w w' := by
  have hmk := run_make_B n hn
  have HH : Hid (Src w a (cellsB L)) := h
  have HL : Hid ((cellsB L).length = n) := by show (cellsB L).length = n; rw [cellsB_length]; exact hL
  have HL2 : Hid (L.length = n) := hL
  clear h hL
  go_enter Tryd.func32, Tryd.ntmps32
  go_wp2_with fail
  clear hmk
  obtain ⟨zs, hz, ho⟩ := rows_made w #[.int .u8 0] n 1 5 rfl (by omega) (by unfold maxLen; omega)
  have HZ : Hid (zs.length = n) := by show zs.length = n; omega
  have HO : Hid (World.ownsRow (w.alloc (.cells (madeCells #[.int .u8 0] n) 5)) w.heap.size 5 1 (.slice (some ⟨w.heap.size, 0, none⟩) n n) n zs) := by
    rw [Nat.mul_one] at ho; exact ho
  clear hz ho
  go_loopw [4] (fun i wr => ∃ k : Nat, k ≤ n ∧ i = .int .i64 k ∧ Hid (Below w.heap.size w wr) ∧ Hid (wr.ownsRow w.heap.size 5 1 (.slice (some ⟨w.heap.size, 0, none⟩) n n) n ((cellsB L).take k ++ zs.drop k))) (fun i _ => n - (intOf i).toNat)
  case atStart => exact ⟨0, by omega, rfl, (Below.refl _ _).alloc (Nat.le_refl _) _, HO.out⟩
  case round =>
    obtain ⟨k, hk, rfl, hb, ho⟩ := hrel
    by_cases hlt : k < n
    · have hkL : k < L.length := by rw [HL2.out]; exact hlt
      obtain ⟨b, o, y, rfl, hc, hy⟩ := srcB (HH.out.below hb.out) hkL
      obtain ⟨z, o1, o2⟩ := own_cellX ho.out (i := k) (by rw [fill_length _ _ _ (HZ.out.trans HL.out.symm), HL.out]; exact hlt)
      have HK : Hid (k < L.length) := hkL
      clear hkL
      go_wp2_with fail
      exact ⟨⟨k + 1, by omega, by go_num, hb.out.setCell (Nat.le_refl _) _, own_congr (own_set ho.out k (by rw [fill_length _ _ _ (HZ.out.trans HL.out.symm), HL.out]; exact hlt) _) (fill_set _ _ k _ (by rw [HZ.out]; exact hlt) (by rw [cellsB_get L k HK.out, hy.out]))⟩, by simp [intOf]; omega⟩
    · have hkn : k = n := by omega
      have HF : Hid (wr.ownsRow w.heap.size 5 1 (.slice (some ⟨w.heap.size, 0, none⟩) n n) n (cellsB L)) := own_congr ho.out (by rw [hkn]; exact fill_all HL.out HZ.out)
      clear hkn
      go_wp2_with fail
      go_ret
      exact ⟨_, rfl, HF.out, hb.out⟩

set_option maxHeartbeats 4000000 in
theorem walk (a : Option Addr) (c : Nat) (L : List Nat) (w : World) (h : Src w a (cellsB L)) (hm : L.length ≤ maxLen ∧ ∀ x ∈ L, x < 256) (hH : HasHalf w) :
    Calls Tryd.prog 6 #[.slice a L.length c] w fun e w' => e = .returned (.bool true) ∧ Below w.heap.size w w' := by
  obtain ⟨n, hn⟩ : ∃ n, L.length = n := ⟨_, rfl⟩
  have HN : Hid (L.length = n) := hn
  have HR : Hid (Src w a (cellsB L)) := h
  have HM : Hid (L.length ≤ maxLen ∧ ∀ x ∈ L, x < 256) := hm
  have HH : Hid (HasHalf w) := hH
  have hnm : n ≤ maxLen := by rw [← hn]; exact HM.out.1
  unfold maxLen at hnm
  rw [hn]
  clear hm h hn hH
  by_cases hbig : (1048576 : Int) < (n : Int)
  · go_enter Tryd.func6, Tryd.ntmps6
    go_wp2_with fail
    go_ret
    exact ⟨rfl, Below.refl _ _⟩
  have hsm : n ≤ 1048576 := by omega
  have hsx : n ≤ maxLen := by unfold maxLen; omega
  go_enter Tryd.func6, Tryd.ntmps6
  go_wp2_with fail
  have B0 : Hid (Below w.heap.size w w) := Below.refl _ _
  have Z0 : Hid (w.heap.size ≤ w.heap.size) := Nat.le_refl _
  refine (toByteX a n c L _ HN.out hsm (HR.out.below B0.out)).mono ?_
  rintro e w1 ⟨g1, rfl, own1, hb1⟩
  have B1 : Hid (Below w.heap.size w w1) := B0.out.trans ((hb1).mono B0.out.size)
  clear B0
  have Z1 : Hid (w.heap.size ≤ w1.heap.size) := hb1.size
  have Q1 : Hid (Src w1 (some ⟨g1, 0, none⟩) (cellsB L)) := (OwnsR.mk own1 (Nat.le_refl _)).src
  clear hb1 own1
  go_wp2_with fail
  refine (specReadNode g1 0 n n L _ HN.out hsm HM.out.2 Q1.out).mono ?_
  rintro e w2 ⟨u2, D, q, rfl, heq, own2, hb2⟩
  obtain ⟨b11, d11, b12, d12, b13, d13, rfl⟩ := own2.lit
  have B2 : Hid (Below w.heap.size w w2) := B1.out.trans ((hb2).mono B1.out.size)
  clear B1
  have OW2 : Hid (OwnsN w2 w1.heap.size w2.heap.size (.agg #[.bool D.A, .slice b11 D.P.length d11, .slice b12 D.L.length d12, .slice b13 D.K.length d13]) D) := own2
  have Z2 : Hid (w1.heap.size ≤ w2.heap.size) := hb2.size
  have HEQ : Hid (readN L = (D, q)) := heq
  have hL : wtN D ≤ 1048576 := readN_len HM.out.2 heq
  clear hb2 own2 heq Q1
  go_wp2_with fail
  refine (toByteX a n c L _ HN.out hsm (HR.out.below (B2.out.alloc B2.out.size _))).mono ?_
  rintro e w3 ⟨g3, rfl, own3, hb3⟩
  have B3 : Hid (Below w.heap.size w w3) := B2.out.trans ((Below.new hb3).mono B2.out.size)
  have OW3 : Hid (OwnsN w3 w1.heap.size w2.heap.size (.agg #[.bool D.A, .slice b11 D.P.length d11, .slice b12 D.L.length d12, .slice b13 D.K.length d13]) D) := OW2.out.below (Below.new hb3)
  clear B2 OW2
  have Z3 : Hid (w2.heap.size + 1 ≤ w3.heap.size) := size_new hb3
  have W3 : Hid (Box w3 w2.heap.size [.bool D.A, .slice b11 D.P.length d11, .slice b12 D.L.length d12, .slice b13 D.K.length d13]) := Box.below (Box.new rfl) hb3
  have OX3 : Hid (OwnsR w3 5 1 (w2.heap.size + 1) w3.heap.size (.slice (some ⟨g3, 0, none⟩) n n) n (cellsB L)) := OwnsR.mk (own_mono own3 (by simp)) (Nat.le_refl _)
  clear hb3 own3
  go_wp2_with fail
  refine (implReadNode g3 0 n n L _ HN.out hsm (Nat.le_refl _) hsx HM.out.2 OX3.out.src (HH.out.below B3.out)).mono ?_
  rintro e w4 ⟨u4, D', q', rfl, heq, own4, hb4⟩
  obtain ⟨rfl, rfl⟩ : D = D' ∧ q = q' := by have h2 := HEQ.out.symm.trans heq; simpa using h2
  clear heq
  obtain ⟨m41, n41, m42, n42, m43, n43, rfl⟩ := own4.lit
  have B4 : Hid (Below w.heap.size w w4) := B3.out.trans ((hb4).mono B3.out.size)
  have OW4 : Hid (OwnsN w4 w1.heap.size w2.heap.size (.agg #[.bool D.A, .slice b11 D.P.length d11, .slice b12 D.L.length d12, .slice b13 D.K.length d13]) D) := OW3.out.below (hb4)
  have W4 : Hid (Box w4 w2.heap.size [.bool D.A, .slice b11 D.P.length d11, .slice b12 D.L.length d12, .slice b13 D.K.length d13]) := W3.out.below (hb4)
  have OX4 : Hid (OwnsR w4 5 1 (w2.heap.size + 1) w3.heap.size (.slice (some ⟨g3, 0, none⟩) n n) n (cellsB L)) := OX3.out.below (hb4)
  clear B3 OW3 W3 OX3
  have Z4 : Hid (w3.heap.size ≤ w4.heap.size) := hb4.size
  have OG4 : Hid (OwnsN w4 w3.heap.size w4.heap.size (.agg #[.bool D.A, .slice m41 D.P.length n41, .slice m42 D.L.length n42, .slice m43 D.K.length n43]) D) := own4
  clear hb4 own4
  have hcc : (q != q) = false := by simp
  obtain ⟨p0, _⟩ := (W4.out.old (.cells #[.bool D.A, .slice m41 D.P.length n41, .slice m42 D.L.length n42, .slice m43 D.K.length n43] 27)) 0 _ rfl
  obtain ⟨p1, _⟩ := (W4.out.old (.cells #[.bool D.A, .slice m41 D.P.length n41, .slice m42 D.L.length n42, .slice m43 D.K.length n43] 27)) 1 _ rfl
  obtain ⟨p2, _⟩ := (W4.out.old (.cells #[.bool D.A, .slice m41 D.P.length n41, .slice m42 D.L.length n42, .slice m43 D.K.length n43] 27)) 2 _ rfl
  obtain ⟨p3, _⟩ := (W4.out.old (.cells #[.bool D.A, .slice m41 D.P.length n41, .slice m42 D.L.length n42, .slice m43 D.K.length n43] 27)) 3 _ rfl
  have A4 : Hid (Below w4.heap.size w4 (w4.alloc (.cells #[.bool D.A, .slice m41 D.P.length n41, .slice m42 D.L.length n42, .slice m43 D.K.length n43] 27))) := (Below.refl _ _).alloc (Nat.le_refl _) _
  go_wp2_with fail
  refine (eqNode _ _ D _ (by omega) (OG4.out.reads.below A4.out) (OW4.out.reads.below A4.out)).mono ?_
  rintro e w5 ⟨rfl, hb5⟩
  have B5 : Hid (Below w.heap.size w w5) := B4.out.trans ((Below.new hb5).mono B4.out.size)
  have OW5 : Hid (OwnsN w5 w1.heap.size w2.heap.size (.agg #[.bool D.A, .slice b11 D.P.length d11, .slice b12 D.L.length d12, .slice b13 D.K.length d13]) D) := OW4.out.below (Below.new hb5)
  have W5 : Hid (Box w5 w2.heap.size [.bool D.A, .slice b11 D.P.length d11, .slice b12 D.L.length d12, .slice b13 D.K.length d13]) := W4.out.below (Below.new hb5)
  have OX5 : Hid (OwnsR w5 5 1 (w2.heap.size + 1) w3.heap.size (.slice (some ⟨g3, 0, none⟩) n n) n (cellsB L)) := OX4.out.below (Below.new hb5)
  have OG5 : Hid (OwnsN w5 w3.heap.size w4.heap.size (.agg #[.bool D.A, .slice m41 D.P.length n41, .slice m42 D.L.length n42, .slice m43 D.K.length n43]) D) := OG4.out.below (Below.new hb5)
  clear B4 OW4 W4 OX4 OG4
  have Z5 : Hid (w4.heap.size + 1 ≤ w5.heap.size) := size_new hb5
  have Y5 : Hid (Box w5 w4.heap.size [.bool D.A, .slice m41 D.P.length n41, .slice m42 D.L.length n42, .slice m43 D.K.length n43]) := Box.below (Box.new rfl) hb5
  clear hb5 A4 p0 p1 p2 p3
  go_wp2_with fail
  refine (toByteX a n c L _ HN.out hsm (HR.out.below B5.out)).mono ?_
  rintro e w6 ⟨g6, rfl, own6, hb6⟩
  have B6 : Hid (Below w.heap.size w w6) := B5.out.trans ((hb6).mono B5.out.size)
  have OW6 : Hid (OwnsN w6 w1.heap.size w2.heap.size (.agg #[.bool D.A, .slice b11 D.P.length d11, .slice b12 D.L.length d12, .slice b13 D.K.length d13]) D) := OW5.out.below (hb6)
  have W6 : Hid (Box w6 w2.heap.size [.bool D.A, .slice b11 D.P.length d11, .slice b12 D.L.length d12, .slice b13 D.K.length d13]) := W5.out.below (hb6)
  have OX6 : Hid (OwnsR w6 5 1 (w2.heap.size + 1) w3.heap.size (.slice (some ⟨g3, 0, none⟩) n n) n (cellsB L)) := OX5.out.below (hb6)
  have OG6 : Hid (OwnsN w6 w3.heap.size w4.heap.size (.agg #[.bool D.A, .slice m41 D.P.length n41, .slice m42 D.L.length n42, .slice m43 D.K.length n43]) D) := OG5.out.below (hb6)
  have Y6 : Hid (Box w6 w4.heap.size [.bool D.A, .slice m41 D.P.length n41, .slice m42 D.L.length n42, .slice m43 D.K.length n43]) := Y5.out.below (hb6)
  clear B5 OW5 W5 OX5 OG5 Y5
  have Q6 : Hid (Src w6 (some ⟨g6, 0, none⟩) (cellsB L)) := (OwnsR.mk own6 (Nat.le_refl _)).src
  clear hb6 own6
  go_wp2_with fail
  refine (eqByteS _ _ n n n L _ HN.out (by omega) OX6.out.src Q6.out).mono ?_
  rintro e w7 ⟨rfl, hb7⟩
  have B7 : Hid (Below w.heap.size w w7) := B6.out.trans ((hb7).mono B6.out.size)
  have OW7 : Hid (OwnsN w7 w1.heap.size w2.heap.size (.agg #[.bool D.A, .slice b11 D.P.length d11, .slice b12 D.L.length d12, .slice b13 D.K.length d13]) D) := OW6.out.below (hb7)
  have W7 : Hid (Box w7 w2.heap.size [.bool D.A, .slice b11 D.P.length d11, .slice b12 D.L.length d12, .slice b13 D.K.length d13]) := W6.out.below (hb7)
  have OX7 : Hid (OwnsR w7 5 1 (w2.heap.size + 1) w3.heap.size (.slice (some ⟨g3, 0, none⟩) n n) n (cellsB L)) := OX6.out.below (hb7)
  have OG7 : Hid (OwnsN w7 w3.heap.size w4.heap.size (.agg #[.bool D.A, .slice m41 D.P.length n41, .slice m42 D.L.length n42, .slice m43 D.K.length n43]) D) := OG6.out.below (hb7)
  have Y7 : Hid (Box w7 w4.heap.size [.bool D.A, .slice m41 D.P.length n41, .slice m42 D.L.length n42, .slice m43 D.K.length n43]) := Y6.out.below (hb7)
  clear B6 OW6 W6 OX6 OG6 Y6
  clear hb7 Q6
  go_wp2_with fail
  refine (markByteS _ n 1 (w2.heap.size + 1) (cellsB L) _ hsm (by omega) (by omega) OX7.out.1).mono ?_
  rintro e w8 ⟨rfl, G8, m8⟩
  have T8 : Turned (w2.heap.size + 1) w3.heap.size w7 w8 := Turned.of_grown G8 (fun k e => ⟨(OX7.out.1.lt k e).1, OX7.out.2 k e⟩)
  have B8 : Hid (Below w.heap.size w w8) := Below.turned B7.out T8 (Nat.le_refl _) (by have := Z1.out; have := Z2.out; have := Z3.out; have := Z4.out; have := Z5.out; omega)
  have OW8 : Hid (OwnsN w8 w1.heap.size w2.heap.size (.agg #[.bool D.A, .slice b11 D.P.length d11, .slice b12 D.L.length d12, .slice b13 D.K.length d13]) D) := OW7.out.turned T8 (by have := Z1.out; have := Z2.out; have := Z3.out; have := Z4.out; have := Z5.out; omega)
  have W8 : Hid (Box w8 w2.heap.size [.bool D.A, .slice b11 D.P.length d11, .slice b12 D.L.length d12, .slice b13 D.K.length d13]) := W7.out.turned T8 (by have := Z1.out; have := Z2.out; have := Z3.out; have := Z4.out; have := Z5.out; omega)
  have OG8 : Hid (OwnsN w8 w3.heap.size w4.heap.size (.agg #[.bool D.A, .slice m41 D.P.length n41, .slice m42 D.L.length n42, .slice m43 D.K.length n43]) D) := OG7.out.turned T8 (by have := Z1.out; have := Z2.out; have := Z3.out; have := Z4.out; have := Z5.out; omega)
  have Y8 : Hid (Box w8 w4.heap.size [.bool D.A, .slice m41 D.P.length n41, .slice m42 D.L.length n42, .slice m43 D.K.length n43]) := Y7.out.turned T8 (by have := Z1.out; have := Z2.out; have := Z3.out; have := Z4.out; have := Z5.out; omega)
  clear B7 OW7 W7 OG7 Y7
  clear T8 G8 m8 OX7
  have hk1 : decide (((1 + n : Nat) : Int) < 0) = false := by simp; omega
  obtain ⟨p0, _⟩ := W8.out 0 _ rfl
  obtain ⟨p1, _⟩ := W8.out 1 _ rfl
  obtain ⟨p2, _⟩ := W8.out 2 _ rfl
  obtain ⟨p3, _⟩ := W8.out 3 _ rfl
  obtain ⟨q0, _⟩ := Y8.out 0 _ rfl
  obtain ⟨q1, _⟩ := Y8.out 1 _ rfl
  obtain ⟨q2, _⟩ := Y8.out 2 _ rfl
  obtain ⟨q3, _⟩ := Y8.out 3 _ rfl
  go_wp2_with fail
  refine (eqNode _ _ D _ (by omega) OG8.out.reads OW8.out.reads).mono ?_
  rintro e w9 ⟨rfl, hb9⟩
  have B9 : Hid (Below w.heap.size w w9) := B8.out.trans ((hb9).mono B8.out.size)
  have OW9 : Hid (OwnsN w9 w1.heap.size w2.heap.size (.agg #[.bool D.A, .slice b11 D.P.length d11, .slice b12 D.L.length d12, .slice b13 D.K.length d13]) D) := OW8.out.below (hb9)
  have W9 : Hid (Box w9 w2.heap.size [.bool D.A, .slice b11 D.P.length d11, .slice b12 D.L.length d12, .slice b13 D.K.length d13]) := W8.out.below (hb9)
  have OG9 : Hid (OwnsN w9 w3.heap.size w4.heap.size (.agg #[.bool D.A, .slice m41 D.P.length n41, .slice m42 D.L.length n42, .slice m43 D.K.length n43]) D) := OG8.out.below (hb9)
  have Y9 : Hid (Box w9 w4.heap.size [.bool D.A, .slice m41 D.P.length n41, .slice m42 D.L.length n42, .slice m43 D.K.length n43]) := Y8.out.below (hb9)
  clear B8 OW8 W8 OG8 Y8
  clear hb9 hk1 p0 p1 p2 p3 q0 q1 q2 q3
  obtain ⟨q0, _⟩ := Y9.out 0 _ rfl
  obtain ⟨q1, _⟩ := Y9.out 1 _ rfl
  obtain ⟨q2, _⟩ := Y9.out 2 _ rfl
  obtain ⟨q3, _⟩ := Y9.out 3 _ rfl
  go_wp2_with fail
  have Z9 : Hid (w4.heap.size ≤ w9.heap.size) := Nat.le_of_lt (World.block_lt_of_cell? _ _ q0)
  refine (markNode _ D 1 w3.heap.size w4.heap.size _ hL (by omega) (by omega) Z9.out OG9.out).mono ?_
  rintro e w10 ⟨rfl, T10, m10⟩
  have B10 : Hid (Below w.heap.size w w10) := Below.turned B9.out T10 (Nat.le_refl _) (by have := Z1.out; have := Z2.out; have := Z3.out; have := Z4.out; have := Z5.out; omega)
  have OW10 : Hid (OwnsN w10 w1.heap.size w2.heap.size (.agg #[.bool D.A, .slice b11 D.P.length d11, .slice b12 D.L.length d12, .slice b13 D.K.length d13]) D) := OW9.out.turned T10 (by have := Z1.out; have := Z2.out; have := Z3.out; have := Z4.out; have := Z5.out; omega)
  have W10 : Hid (Box w10 w2.heap.size [.bool D.A, .slice b11 D.P.length d11, .slice b12 D.L.length d12, .slice b13 D.K.length d13]) := W9.out.turned T10 (by have := Z1.out; have := Z2.out; have := Z3.out; have := Z4.out; have := Z5.out; omega)
  have Y10 : Hid (Box w10 w4.heap.size [.bool D.A, .slice m41 D.P.length n41, .slice m42 D.L.length n42, .slice m43 D.K.length n43]) := Y9.out.turned T10 (by have := Z1.out; have := Z2.out; have := Z3.out; have := Z4.out; have := Z5.out; omega)
  clear B9 OW9 W9 Y9
  have OG10 : Hid (OwnsN w10 w3.heap.size w4.heap.size (.agg #[.bool D.A, .slice m41 D.P.length n41, .slice m42 D.L.length n42, .slice m43 D.K.length n43]) (mkNode D 1)) := m10
  clear T10 m10 OG9 Z9 q0 q1 q2 q3
  obtain ⟨E, hE⟩ : ∃ E : Nat, endNode D 1 = E := ⟨_, rfl⟩
  rw [hE]
  have HE : Hid (endNode D 1 = E) := hE
  clear hE
  have hk2 : decide (((E : Nat) : Int) < 0) = false := by simp
  have hk3 : (((E : Nat) : Int) != ((E : Nat) : Int)) = false := by simp
  obtain ⟨q0, _⟩ := Y10.out 0 _ rfl
  obtain ⟨q1, _⟩ := Y10.out 1 _ rfl
  obtain ⟨q2, _⟩ := Y10.out 2 _ rfl
  obtain ⟨q3, _⟩ := Y10.out 3 _ rfl
  go_wp2_with fail
  refine (heldNode _ D 1 _ hL (by omega) (by omega) OG10.out.reads).mono ?_
  rintro e w11 ⟨rfl, hb11⟩
  rw [HE.out]
  have B11 : Hid (Below w.heap.size w w11) := B10.out.trans ((hb11).mono B10.out.size)
  have OW11 : Hid (OwnsN w11 w1.heap.size w2.heap.size (.agg #[.bool D.A, .slice b11 D.P.length d11, .slice b12 D.L.length d12, .slice b13 D.K.length d13]) D) := OW10.out.below (hb11)
  have W11 : Hid (Box w11 w2.heap.size [.bool D.A, .slice b11 D.P.length d11, .slice b12 D.L.length d12, .slice b13 D.K.length d13]) := W10.out.below (hb11)
  have OG11 : Hid (OwnsN w11 w3.heap.size w4.heap.size (.agg #[.bool D.A, .slice m41 D.P.length n41, .slice m42 D.L.length n42, .slice m43 D.K.length n43]) (mkNode D 1)) := OG10.out.below (hb11)
  have Y11 : Hid (Box w11 w4.heap.size [.bool D.A, .slice m41 D.P.length n41, .slice m42 D.L.length n42, .slice m43 D.K.length n43]) := Y10.out.below (hb11)
  clear B10 OW10 W10 OG10 Y10
  clear hb11 q0 q1 q2 q3
  go_wp2_with fail
  refine (toByteX a n c L _ HN.out hsm (HR.out.below B11.out)).mono ?_
  rintro e w12 ⟨g12, rfl, own12, hb12⟩
  have B12 : Hid (Below w.heap.size w w12) := B11.out.trans ((hb12).mono B11.out.size)
  have OW12 : Hid (OwnsN w12 w1.heap.size w2.heap.size (.agg #[.bool D.A, .slice b11 D.P.length d11, .slice b12 D.L.length d12, .slice b13 D.K.length d13]) D) := OW11.out.below (hb12)
  have W12 : Hid (Box w12 w2.heap.size [.bool D.A, .slice b11 D.P.length d11, .slice b12 D.L.length d12, .slice b13 D.K.length d13]) := W11.out.below (hb12)
  have OG12 : Hid (OwnsN w12 w3.heap.size w4.heap.size (.agg #[.bool D.A, .slice m41 D.P.length n41, .slice m42 D.L.length n42, .slice m43 D.K.length n43]) (mkNode D 1)) := OG11.out.below (hb12)
  have Y12 : Hid (Box w12 w4.heap.size [.bool D.A, .slice m41 D.P.length n41, .slice m42 D.L.length n42, .slice m43 D.K.length n43]) := Y11.out.below (hb12)
  clear B11 OW11 W11 OG11 Y11
  have Q12 : Hid (Src w12 (some ⟨g12, 0, none⟩) (cellsB L)) := (OwnsR.mk own12 (Nat.le_refl _)).src
  clear hb12 own12
  go_wp2_with fail
  refine (implReadNode g12 0 n n L _ HN.out hsm (Nat.le_refl _) hsx HM.out.2 Q12.out (HH.out.below B12.out)).mono ?_
  rintro e w13 ⟨u13, D', q', rfl, heq, own13, hb13⟩
  obtain ⟨rfl, rfl⟩ : D = D' ∧ q = q' := by have h2 := HEQ.out.symm.trans heq; simpa using h2
  clear heq
  obtain ⟨m131, n131, m132, n132, m133, n133, rfl⟩ := own13.lit
  have B13 : Hid (Below w.heap.size w w13) := B12.out.trans ((hb13).mono B12.out.size)
  have OW13 : Hid (OwnsN w13 w1.heap.size w2.heap.size (.agg #[.bool D.A, .slice b11 D.P.length d11, .slice b12 D.L.length d12, .slice b13 D.K.length d13]) D) := OW12.out.below (hb13)
  have W13 : Hid (Box w13 w2.heap.size [.bool D.A, .slice b11 D.P.length d11, .slice b12 D.L.length d12, .slice b13 D.K.length d13]) := W12.out.below (hb13)
  have OG13 : Hid (OwnsN w13 w3.heap.size w4.heap.size (.agg #[.bool D.A, .slice m41 D.P.length n41, .slice m42 D.L.length n42, .slice m43 D.K.length n43]) (mkNode D 1)) := OG12.out.below (hb13)
  have Y13 : Hid (Box w13 w4.heap.size [.bool D.A, .slice m41 D.P.length n41, .slice m42 D.L.length n42, .slice m43 D.K.length n43]) := Y12.out.below (hb13)
  clear B12 OW12 W12 OG12 Y12
  have OH13 : Hid (ReadsN w13 (.agg #[.bool D.A, .slice m131 D.P.length n131, .slice m132 D.L.length n132, .slice m133 D.K.length n133]) D) := own13.reads
  clear hb13 own13 Q12
  obtain ⟨p0, _⟩ := (W13.out.old (.cells #[.bool D.A, .slice m131 D.P.length n131, .slice m132 D.L.length n132, .slice m133 D.K.length n133] 27)) 0 _ rfl
  obtain ⟨p1, _⟩ := (W13.out.old (.cells #[.bool D.A, .slice m131 D.P.length n131, .slice m132 D.L.length n132, .slice m133 D.K.length n133] 27)) 1 _ rfl
  obtain ⟨p2, _⟩ := (W13.out.old (.cells #[.bool D.A, .slice m131 D.P.length n131, .slice m132 D.L.length n132, .slice m133 D.K.length n133] 27)) 2 _ rfl
  obtain ⟨p3, _⟩ := (W13.out.old (.cells #[.bool D.A, .slice m131 D.P.length n131, .slice m132 D.L.length n132, .slice m133 D.K.length n133] 27)) 3 _ rfl
  have A13 : Hid (Below w13.heap.size w13 (w13.alloc (.cells #[.bool D.A, .slice m131 D.P.length n131, .slice m132 D.L.length n132, .slice m133 D.K.length n133] 27))) := (Below.refl _ _).alloc (Nat.le_refl _) _
  go_wp2_with fail
  refine (eqNode _ _ D _ (by omega) (OH13.out.below A13.out) (OW13.out.reads.below A13.out)).mono ?_
  rintro e w14 ⟨rfl, hb14⟩
  have B14 : Hid (Below w.heap.size w w14) := B13.out.trans ((Below.new hb14).mono B13.out.size)
  have OW14 : Hid (OwnsN w14 w1.heap.size w2.heap.size (.agg #[.bool D.A, .slice b11 D.P.length d11, .slice b12 D.L.length d12, .slice b13 D.K.length d13]) D) := OW13.out.below (Below.new hb14)
  have W14 : Hid (Box w14 w2.heap.size [.bool D.A, .slice b11 D.P.length d11, .slice b12 D.L.length d12, .slice b13 D.K.length d13]) := W13.out.below (Below.new hb14)
  have OG14 : Hid (OwnsN w14 w3.heap.size w4.heap.size (.agg #[.bool D.A, .slice m41 D.P.length n41, .slice m42 D.L.length n42, .slice m43 D.K.length n43]) (mkNode D 1)) := OG13.out.below (Below.new hb14)
  have Y14 : Hid (Box w14 w4.heap.size [.bool D.A, .slice m41 D.P.length n41, .slice m42 D.L.length n42, .slice m43 D.K.length n43]) := Y13.out.below (Below.new hb14)
  clear B13 OW13 W13 OG13 Y13
  clear hb14 A13 OH13 p0 p1 p2 p3
  obtain ⟨q0, _⟩ := Y14.out 0 _ rfl
  obtain ⟨q1, _⟩ := Y14.out 1 _ rfl
  obtain ⟨q2, _⟩ := Y14.out 2 _ rfl
  obtain ⟨q3, _⟩ := Y14.out 3 _ rfl
  go_wp2_with fail
  refine (heldNode _ D 1 _ hL (by omega) (by omega) OG14.out.reads).mono ?_
  rintro e w15 ⟨rfl, hb15⟩
  rw [HE.out]
  have B15 : Hid (Below w.heap.size w w15) := B14.out.trans ((hb15).mono B14.out.size)
  have OW15 : Hid (OwnsN w15 w1.heap.size w2.heap.size (.agg #[.bool D.A, .slice b11 D.P.length d11, .slice b12 D.L.length d12, .slice b13 D.K.length d13]) D) := OW14.out.below (hb15)
  have W15 : Hid (Box w15 w2.heap.size [.bool D.A, .slice b11 D.P.length d11, .slice b12 D.L.length d12, .slice b13 D.K.length d13]) := W14.out.below (hb15)
  have OG15 : Hid (OwnsN w15 w3.heap.size w4.heap.size (.agg #[.bool D.A, .slice m41 D.P.length n41, .slice m42 D.L.length n42, .slice m43 D.K.length n43]) (mkNode D 1)) := OG14.out.below (hb15)
  have Y15 : Hid (Box w15 w4.heap.size [.bool D.A, .slice m41 D.P.length n41, .slice m42 D.L.length n42, .slice m43 D.K.length n43]) := Y14.out.below (hb15)
  clear B14 OW14 W14 OG14 Y14
  clear hb15 q0 q1 q2 q3
  go_wp2_with fail
  go_ret
  exact ⟨rfl, B15.out⟩
end Go.Proofs.YtnejklppbjkekaaDoor.fnExactReadNode
