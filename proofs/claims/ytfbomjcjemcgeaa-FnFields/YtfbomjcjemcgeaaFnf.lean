
/-
  The walk of the law FnFields. By an AI agent.
-/
import Derived.Test.YtfbomjcjemcgeaaRdp
import Derived.Test.YtfbomjcjemcgeaaDraws2
import Derived.Test.YtfbomjcjemcgeaaArgs
namespace Go.Proofs.Ytfbomjcjemcgeaa
open Go.ChangeShapes Go.WideShapes Go.ChangeAt Go.RowKit Go.Deep
set_option linter.unusedVariables false
set_option maxRecDepth 100000

set_option maxHeartbeats 1000000 in
theorem sameTexts (a b : Option Addr) (n c d : Nat) (L : List ByteArray) (w : World) (hL : L.length = n) (hn : n ≤ 1048576) (ha : Src w a (cellsS L)) (hb : Src w b (cellsS L)) :
    Calls Try.prog 13 #[.slice a n c, .slice b n d] w fun e w' => e = .returned (.bool true) ∧ Below w.heap.size w w' := by
  have hne : ((n : Int) != (n : Int)) = false := by simp
  have HA : Hid (Src w a (cellsS L)) := ha
  have HB : Hid (Src w b (cellsS L)) := hb
  have HL : Hid (L.length = n) := hL
  clear ha hb hL
  go_enter Try.func13, Try.ntmps13
  go_wp2_with fail
  go_loopw [5] (fun i wr => ∃ k : Nat, k ≤ n ∧ i = .int .i64 k ∧ Hid (Below w.heap.size w wr)) (fun i _ => n - (intOf i).toNat)
  case atStart => exact ⟨0, by omega, rfl, Below.refl _ _⟩
  case round =>
    obtain ⟨k, hk, rfl, hB⟩ := hrel
    by_cases hlt : k < n
    · obtain ⟨b1, o1, y, rfl, p1, hy1⟩ := srcS (HA.out.below hB.out) (i := k) (by rw [HL.out]; exact hlt)
      obtain ⟨b2, o2, y2, rfl, p2, hy2⟩ := srcS (HB.out.below hB.out) (i := k) (by rw [HL.out]; exact hlt)
      obtain rfl : y = y2 := hy1.out.symm.trans hy2.out
      have hk0 : (0 : Int) ≤ (k : Int) := by omega
      have hki : (k : Int) < (n : Int) := by omega
      go_wp2_with fail
      go_quiet (fail)
      go_wp2_with fail
      exact ⟨⟨k + 1, by omega, by go_num, Below.drewN' hB.out _⟩, by simp [intOf]; omega⟩
    · go_wp2_with fail
      go_ret
      exact ⟨rfl, hB.out⟩
theorem conv_all {w : World} {b o n c : Nat} {B : List Nat} (h : Src w (some ⟨b, o, none⟩) (cellsB B)) (hn : B.length = n) : (convert 22 9 (.slice (some ⟨b, o, none⟩) n c)).run Try.prog w = .ok (.string (strB B)) w := by
  have h9 := conv_sub (c := c) h (s := n) (by omega)
  rwa [List.take_of_length_le (by omega)] at h9
theorem fds_ok {L : List ByteArray} (hn : L.length ≤ 200) (h : ∀ y ∈ L, y.size ≤ 300) : fdsA L = (fieldsB L, 0) := by
  unfold fdsA
  rw [if_neg (by omega), if_neg (by omega), if_neg]
  rintro ⟨x, hx, h1⟩
  have := h x hx
  omega
theorem own_someB {w : World} {base e s n : Nat} {v : Value} {xs : List Value} (h : w.ownsRow base e s v n xs) (hn : 0 < n) : ∃ g cap, v = .slice (some ⟨g, 0, none⟩) n cap ∧ n ≤ cap ∧ cap ≤ maxLen ∧ Src w (some ⟨g, 0, none⟩) xs := by
  obtain ⟨a, c, rfl, hs, _⟩ := own_src h
  obtain ⟨hl, ⟨hv, h0⟩ | ⟨g, cap, cur, hv, hb, hg, hc1, hc2, hsz, ht⟩⟩ := h
  · omega
  · cases hv
    exact ⟨g, c, rfl, hc1, hc2, hs⟩
theorem fieldsB_8 (L : List ByteArray) : ∀ x ∈ fieldsB L, x < 256 := by
  intro x hx
  unfold fieldsB at hx
  rw [List.mem_cons] at hx
  rcases hx with rfl | hx
  · omega
  · rw [List.mem_flatMap] at hx
    obtain ⟨s, _, hs⟩ := hx
    unfold fieldB numB bytesOf at hs
    simp at hs
    rcases hs with rfl | rfl | ⟨b, _, rfl⟩
    · omega
    · omega
    · exact b.toNat_lt

section
variable {H : Type} {enc : TypeId × Value → H} {W : World} {d : DataW H} {p : List MemPlace}
theorem bytes_cap {a : Option Addr} {n c : Nat} (h : DataW.Trod enc Try.prog W 0 (fun _ => true) true 22 (.slice a n c) d p) : n ≤ c ∧ c ≤ maxLen := by
  obtain ⟨fuel, hf⟩ := h
  have h9 : DataW.trod enc Try.prog W 0 (fun _ => true) true fuel 22 [.slice a n c] = some (d, p) := by simpa [Value.cells] using hf
  rcases open_ints Try.underlying22 Try.underlying5 (by kernel_rfl) h9 with ⟨hcs, _⟩ | ⟨ad, len, cap, zs, hcs, _, hl, hm, _⟩
  · simp at hcs
    obtain ⟨_, rfl, rfl⟩ := hcs
    exact ⟨Nat.le_refl _, by simp⟩
  · simp at hcs
    obtain ⟨_, rfl, rfl⟩ := hcs
    exact ⟨hl, hm⟩
end
set_option maxHeartbeats 4000000 in
theorem fieldsWalk (a ma : Option Addr) (c mc : Nat) (C M : List Nat) (w : World) (hC9 : C.length ≤ maxLen) (hM9 : M.length ≤ maxLen) (hlt : ∀ x ∈ C, x < 256) (hmt : ∀ x ∈ M, x < 256) (h : Src w a (cellsB C)) (hm : Src w ma (cellsB M)) (hmc : M.length ≤ mc ∧ mc ≤ maxLen) :
    Calls Try.prog 3 #[.slice a C.length c, .slice ma M.length mc] w fun e w' => e = .returned (.bool true) ∧ Below w.heap.size w w' := by
  unfold maxLen at hC9 hM9
  obtain ⟨n, hn⟩ : ∃ n, C.length = n := ⟨_, rfl⟩
  obtain ⟨m, hm9⟩ : ∃ m, M.length = m := ⟨_, rfl⟩
  have HN : Hid (C.length = n ∧ M.length = m) := ⟨hn, hm9⟩
  have HB : Hid ((∀ x ∈ C, x < 256) ∧ (∀ x ∈ M, x < 256)) := ⟨hlt, hmt⟩
  have HS : Hid (Src w a (cellsB C) ∧ Src w ma (cellsB M)) := ⟨h, hm⟩
  have HMC : Hid (m ≤ mc ∧ mc ≤ maxLen) := by rw [← hm9]; exact hmc
  rw [hn] at hC9
  rw [hm9] at hM9
  rw [hn, hm9]
  clear hlt hmt h hm hn hm9 hmc
  by_cases t1 : (1048576 : Int) < (n : Int)
  · go_enter Try.func3, Try.ntmps3
    go_wp2_with fail
    go_ret
    exact ⟨rfl, Below.refl _ _⟩
  by_cases t2 : (1048576 : Int) < (m : Int)
  · go_enter Try.func3, Try.ntmps3
    go_wp2_with fail
    go_ret
    exact ⟨rfl, Below.refl _ _⟩
  have n20 : n ≤ 1048576 := by omega
  have m20 : m ≤ 1048576 := by omega
  go_enter Try.func3, Try.ntmps3
  go_wp2_with fail
  refine (specTextsOf a n c C _ HN.out.1 n20 HB.out.1 HS.out.1).mono ?_
  rintro e w1 ⟨v1, L, rfl, o1, hl1, hz1, hb1⟩
  obtain ⟨l, hl⟩ : ∃ l, L.length = l := ⟨_, rfl⟩
  rw [hl] at o1 hl1
  obtain ⟨la, lc, rfl, ls, _⟩ := own_src o1
  have B1 : Hid (Below w.heap.size w w1) := hb1
  have LS : Hid (Src w1 la (cellsS L) ∧ L.length = l ∧ (∀ y ∈ L, y.size ≤ 300)) := ⟨ls, hl, fun y hy => by have := hz1 y hy; omega⟩
  have FDS : Hid (fdsA L = (fieldsB L, 0)) := fds_ok (by rw [hl]; omega) LS.out.2.2
  obtain ⟨F, hF⟩ : ∃ F, fieldsB L = F := ⟨_, rfl⟩
  obtain ⟨f, hf⟩ : ∃ f, F.length = f := ⟨_, rfl⟩
  have hfl : 0 < f ∧ f ≤ 2000 := by
    rw [← hf, ← hF]
    unfold fieldsB
    rw [List.length_cons]
    have h9 := flat_le L 4 hz1
    rw [hl] at h9
    have : l * (2 + 4) ≤ 5 * 6 := Nat.mul_le_mul_right _ hl1
    omega
  have RFB : Hid (rfA F = (L, 0)) := by rw [← hF]; exact rf_back L (by rw [hl]; omega) LS.out.2.2 (by rw [hF, hf]; omega)
  have HF : Hid (fdsA L = (F, 0) ∧ F.length = f ∧ ∀ x ∈ F, x < 256) := ⟨by rw [← hF]; exact FDS.out, hf, by rw [← hF]; exact fieldsB_8 L⟩
  clear o1 ls hb1 hz1 hl hF hf FDS
  go_wp2_with fail
  refine (implFieldsBytes la l lc L _ LS.out.2.1 (by omega) (fun y hy => by have := LS.out.2.2 y hy; omega) LS.out.1).mono ?_
  rintro e w2 ⟨v2, R2, q2, rfl, he2, o2, hb2⟩
  obtain ⟨rfl, rfl⟩ : F = R2 ∧ (0 : Int) = q2 := by have h9 := HF.out.1.symm.trans he2; simpa using h9
  rw [HF.out.2.1] at o2
  obtain ⟨g2, c2, rfl, hc2, hm2, s2⟩ := own_someB o2 hfl.1
  have B2 : Hid (Below w.heap.size w w2) := B1.out.trans (hb2.mono B1.out.size)
  have L2 : Hid (Src w2 la (cellsS L)) := LS.out.1.below hb2
  have S2 : Hid (Src w2 (some ⟨g2, 0, none⟩) (cellsB F) ∧ f ≤ c2 ∧ c2 ≤ maxLen) := ⟨s2, hc2, hm2⟩
  clear he2 o2 hb2 s2 hc2 hm2
  go_wp2_with fail
  refine (specFieldsBytes la l lc L _ LS.out.2.1 (by omega) (fun y hy => by have := LS.out.2.2 y hy; omega) L2.out).mono ?_
  rintro e w3 ⟨v3, R3, q3, rfl, he3, o3, hb3⟩
  obtain ⟨rfl, rfl⟩ : F = R3 ∧ (0 : Int) = q3 := by have h9 := HF.out.1.symm.trans he3; simpa using h9
  rw [HF.out.2.1] at o3
  obtain ⟨g3, c3, rfl, hc3, hm3, s3⟩ := own_someB o3 hfl.1
  have B3 : Hid (Below w.heap.size w w3) := B2.out.trans (hb3.mono B2.out.size)
  have L3 : Hid (Src w3 la (cellsS L)) := L2.out.below hb3
  have S3 : Hid (Src w3 (some ⟨g2, 0, none⟩) (cellsB F) ∧ Src w3 (some ⟨g3, 0, none⟩) (cellsB F)) := ⟨S2.out.1.below hb3, s3⟩
  clear he3 o3 hb3 s3 hc3 hm3 L2
  go_wp2_with fail
  refine (implReadFields (some ⟨g2, 0, none⟩) f c2 F _ HF.out.2.1 (by omega) S2.out.2.1 S2.out.2.2 HF.out.2.2 S3.out.1).mono ?_
  rintro e w4 ⟨v4, R4, q4, rfl, he4, o4, hb4⟩
  obtain ⟨rfl, rfl⟩ : L = R4 ∧ (0 : Int) = q4 := by have h9 := RFB.out.symm.trans he4; simpa using h9
  rw [LS.out.2.1] at o4
  obtain ⟨ka, kc, rfl, ks, _⟩ := own_src o4
  have B4 : Hid (Below w.heap.size w w4) := B3.out.trans (hb4.mono B3.out.size)
  have L4 : Hid (Src w4 la (cellsS L) ∧ Src w4 ka (cellsS L)) := ⟨L3.out.below hb4, ks⟩
  have cv1 : (convert 22 9 (.slice (some ⟨g2, 0, none⟩) f c2)).run Try.prog w4 = .ok (.string (strB F)) w4 := conv_all (S3.out.1.below hb4) HF.out.2.1
  have cv2 : (convert 22 9 (.slice (some ⟨g3, 0, none⟩) f c3)).run Try.prog w4 = .ok (.string (strB F)) w4 := conv_all (S3.out.2.below hb4) HF.out.2.1
  obtain ⟨sf, hsf⟩ : ∃ sf, strB F = sf := ⟨_, rfl⟩
  rw [hsf] at cv1 cv2
  clear he4 o4 hb4 ks L3 hsf
  go_wp2_with fail
  refine (sameTexts ka la l kc lc L _ LS.out.2.1 (by omega) L4.out.2 L4.out.1).mono ?_
  rintro e w5 ⟨rfl, hb5⟩
  have B5 : Hid (Below w.heap.size w w5) := B4.out.trans (hb5.mono B4.out.size)
  clear hb5 cv1 cv2
  go_wp2_with fail
  refine (implReadFields ma m mc M _ HN.out.2 m20 HMC.out.1 HMC.out.2 HB.out.2 (HS.out.2.below B5.out)).mono ?_
  rintro e w6 ⟨v6, R, q, rfl, he6, o6, hb6⟩
  obtain ⟨xa, xc, rfl, xs, _⟩ := own_src o6
  have B6 : Hid (Below w.heap.size w w6) := B5.out.trans (hb6.mono B5.out.size)
  have X6 : Hid (Src w6 xa (cellsS R) ∧ rfA M = (R, q)) := ⟨xs, he6⟩
  clear he6 o6 hb6 xs
  go_wp2_with fail
  refine (specReadFields ma m mc M _ HN.out.2 m20 HB.out.2 (HS.out.2.below B6.out)).mono ?_
  rintro e w7 ⟨v7, R7, q7, rfl, he7, o7, hb7⟩
  obtain ⟨rfl, rfl⟩ : R = R7 ∧ q = q7 := by have h9 := X6.out.2.symm.trans he7; simpa using h9
  have B7 : Hid (Below w.heap.size w w7) := B6.out.trans (hb7.mono B6.out.size)
  have X7 : Hid (Src w7 xa (cellsS R)) := X6.out.1.below hb7
  clear he7 o7 hb7
  have hqq : (q != q) = false := by simp
  by_cases hq : q = 0
  case neg =>
    have hq0 : (q != 0) = true := by simpa using hq
    clear hq
    go_wp2_with fail
    go_ret
    exact ⟨rfl, B7.out⟩
  subst hq
  obtain ⟨r, hr⟩ : ∃ r, R.length = r := ⟨_, rfl⟩
  obtain ⟨z1, z2, z3⟩ := rf_same HB.out.2 X6.out.2
  have RS : Hid (R.length = r ∧ r ≤ 200 ∧ (∀ y ∈ R, y.size ≤ 300) ∧ fdsA R = (M, 0)) := ⟨hr, by rw [← hr]; exact z1, z2, by rw [fds_ok z1 z2, z3]⟩
  have hm1 : 0 < m := by rw [← HN.out.2, ← z3]; simp [fieldsB]
  rw [hr]
  clear z1 z2 z3 hr
  go_wp2_with fail
  refine (implFieldsBytes xa r xc R _ RS.out.1 (by have := RS.out.2.1; omega) (fun y hy => by have := RS.out.2.2.1 y hy; omega) X7.out).mono ?_
  rintro e w8 ⟨v8, R8, q8, rfl, he8, o8, hb8⟩
  obtain ⟨rfl, rfl⟩ : M = R8 ∧ (0 : Int) = q8 := by have h9 := RS.out.2.2.2.symm.trans he8; simpa using h9
  rw [HN.out.2] at o8
  obtain ⟨g8, c8, rfl, hc8, hm8, s8⟩ := own_someB o8 hm1
  have B8 : Hid (Below w.heap.size w w8) := B7.out.trans (hb8.mono B7.out.size)
  obtain ⟨mb, mo, rfl⟩ : ∃ b o, ma = some ⟨b, o, none⟩ := by
    rcases HS.out.2 with h9 | ⟨b, o, rfl, _⟩
    · have h2 := cellsB_length M
      rw [h9] at h2
      simp only [List.length_nil] at h2
      have := HN.out.2
      omega
    · exact ⟨b, o, rfl⟩
  have cv3 : (convert 22 9 (.slice (some ⟨g8, 0, none⟩) m c8)).run Try.prog w8 = .ok (.string (strB M)) w8 := conv_all s8 HN.out.2
  have cv4 : (convert 22 9 (.slice (some ⟨mb, mo, none⟩) m mc)).run Try.prog w8 = .ok (.string (strB M)) w8 := conv_all (HS.out.2.below B8.out) HN.out.2
  obtain ⟨sm, hsm⟩ : ∃ sm, strB M = sm := ⟨_, rfl⟩
  rw [hsm] at cv3 cv4
  clear he8 o8 hb8 s8 hc8 hm8 hsm
  go_wp2_with fail
  go_ret
  exact ⟨rfl, B8.out⟩
end Go.Proofs.Ytfbomjcjemcgeaa
