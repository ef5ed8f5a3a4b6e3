/-
  The walk of the law FnReplay.
  By an AI agent.
-/
import Derived.Test.YtmbndpgoihdpnaaGreatDoorFr4
import Derived.Test.YtmbndpgoihdpnaaGreatDoorRb1
import Derived.Test.YtmbndpgoihdpnaaGreatDoorMbi
import Derived.Test.YtmbndpgoihdpnaaGreatDoorFbk
import Derived.Test.YtmbndpgoihdpnaaGreatDoorFnp
import Derived.Deep.RegionWith
namespace Go.Proofs.YtmbndpgoihdpnaaGreatDoor.fnReplay
open Go.ChangeShapes Go.WideShapes Go.ChangeAt Go.WideMaps Go.WideElems Go.RowKit Go.Deep
open Go.ChangeMaps (open_string shut_string)
set_option linter.unusedVariables false

def numO (L : List Nat) : Nat := L.foldl (fun a b => a * 256 + b) 0
theorem numO_snoc (L : List Nat) (x : Nat) : numO (L ++ [x]) = numO L * 256 + x := by simp [numO]
theorem numO_numQ (s : Nat) (hs : s < 4294967296) : numO (numQ s) = s := by simp [numO, numQ]; omega
theorem numO_take (s k : Nat) (hk : k ≤ 4) : numO ((numQ s).take k) < 4294967296 := by
  have h : k = 0 ∨ k = 1 ∨ k = 2 ∨ k = 3 ∨ k = 4 := by omega
  rcases h with rfl | rfl | rfl | rfl | rfl <;> simp [numO, numQ] <;> omega
theorem numQ_at (s k : Nat) (hk : k < 4) : (numQ s).take (k + 1) = (numQ s).take k ++ [(numQ s).getD k 0] ∧ (numQ s).getD k 0 < 256 := by
  have h : k = 0 ∨ k = 1 ∨ k = 2 ∨ k = 3 := by omega
  rcases h with rfl | rfl | rfl | rfl <;> simp [numQ] <;> omega
theorem src_good {w : World} {b l : Nat} {L : List PM} (h : Sp w (some ⟨b, 0, none⟩) l (fstL L) (sndL L)) (hl : L.length = l) : Src w (some ⟨b, 0, none⟩) (cellsP L) := by
  subst hl
  have h9 := src_sp h
  rwa [listP_self] at h9
theorem good_nil : GoodL [] := ⟨fun x hx => (by cases hx), List.Pairwise.nil⟩
theorem okK_small {D : BM} (h : okK D = true) : smallK D := by
  have F0 := okK_facts h
  refine ⟨by have := F0.2.2.2.2.1; omega, by have := F0.2.2.1; omega, by have := F0.2.2.2.1; omega, fun x hx => ?_⟩
  have := F0.2.2.2.2.2 x hx
  omega
theorem mb_made {F T : ByteArray} {C : Int} {a b : List PM} (ha : GoodL a) (hb : GoodL b) (la : a.length ≤ 60) (lb : b.length ≤ 60) (hF : F.size ≤ 65536) (hT : T.size ≤ 65536) (hf : followsB F T C = true) (h0 : F.size = 0 → a = []) : mbA F T C a b = (⟨F, T, C, diffM a b, ((sumL (fsP b) : Nat) : Int)⟩, 0) := by
  unfold mbA
  rw [if_neg (by omega), diffA_good ha hb la lb, if_neg (by simp), if_neg (by intro h9; rw [h0 h9.1] at h9; simp at h9), if_neg (by rw [hf]; decide)]
theorem reads_oneB {w : World} {V1 : BkV} {D : BM} {g ty : Nat} (hg : g = w.heap.size) (h1 : ReadsK w V1.val D) : ReadsBL (w.alloc (.cells #[.string V1.F, .string V1.T, .int .i64 V1.C, V1.v1, .int .i64 V1.S] ty)) (some ⟨g, 0, none⟩) [D] := by
  refine ⟨[V1], rfl, src_vals (xs := cellsBk [V1]) hg, fun i hi => ?_⟩
  obtain rfl : i = 0 := by simp at hi; omega
  exact h1.below ((Below.refl _ _).alloc (Nat.le_refl _) _)
theorem reads_twoB {w : World} {V1 V2 : BkV} {D E : BM} {g ty : Nat} (hg : g = w.heap.size) (h1 : ReadsK w V1.val D) (h2 : ReadsK w V2.val E) : ReadsBL (w.alloc (.cells #[.string V1.F, .string V1.T, .int .i64 V1.C, V1.v1, .int .i64 V1.S, .string V2.F, .string V2.T, .int .i64 V2.C, V2.v1, .int .i64 V2.S] ty)) (some ⟨g, 0, none⟩) [D, E] := by
  refine ⟨[V1, V2], rfl, src_vals (xs := cellsBk [V1, V2]) hg, fun i hi => ?_⟩
  have h : i = 0 ∨ i = 1 := by simp at hi; omega
  rcases h with rfl | rfl
  · exact h1.below ((Below.refl _ _).alloc (Nat.le_refl _) _)
  · exact h2.below ((Below.refl _ _).alloc (Nat.le_refl _) _)
theorem foll_one : followsB ⟨#[]⟩ ⟨#[102, 105, 114, 115, 116]⟩ 0 = true := by decide
theorem short_first : shortB ⟨#[102, 105, 114, 115, 116]⟩ = true := by decide
theorem short_second : shortB ⟨#[115, 101, 99, 111, 110, 100]⟩ = true := by decide
theorem foll_two (z : Nat) (hz : z < 4294967296) : followsB ⟨#[102, 105, 114, 115, 116]⟩ ⟨#[115, 101, 99, 111, 110, 100]⟩ (z : Int) = true := by
  unfold followsB
  rw [short_first, short_second]
  have h1 : u32B (z : Int) = true := by unfold u32B; simp; omega
  rw [h1]
  rfl

set_option maxRecDepth 100000
set_option maxHeartbeats 8000000 in
theorem walk (a ma : Option Addr) (c mc : Nat) (C M : List Nat) (w : World) (hC9 : C.length ≤ maxLen) (hM9 : M.length ≤ maxLen) (hlt : ∀ x ∈ C, x < 256) (hmt : ∀ x ∈ M, x < 256) (h : Src w a (cellsB C)) (hm : Src w ma (cellsB M)) (hH : HasHalf w) (hE : HasErr w) :
    Calls Tryz.prog 6 #[.slice a C.length c, .slice ma M.length mc] w fun e w' => e = .returned (.bool true) ∧ Below w.heap.size w w' := by
  unfold maxLen at hC9 hM9
  obtain ⟨n, hn⟩ : ∃ n, C.length = n := ⟨_, rfl⟩
  obtain ⟨m, hm9⟩ : ∃ n, M.length = n := ⟨_, rfl⟩
  have HN : Hid (C.length = n ∧ M.length = m) := ⟨hn, hm9⟩
  have HB : Hid ((∀ x ∈ C, x < 256) ∧ ∀ x ∈ M, x < 256) := ⟨hlt, hmt⟩
  have HS : Hid (Src w a (cellsB C) ∧ Src w ma (cellsB M)) := ⟨h, hm⟩
  have HH : Hid (HasHalf w) := hH
  have HE : Hid (HasErr w) := hE
  rw [hn] at hC9
  rw [hm9] at hM9
  rw [hn, hm9]
  clear hlt hmt h hm hn hm9 hH hE
  by_cases t1 : (1048576 : Int) < (n : Int)
  · go_enter Tryz.func6, Tryz.ntmps6
    go_wp2_with fail
    go_ret
    exact ⟨rfl, Below.refl _ _⟩
  by_cases t2 : (1048576 : Int) < (m : Int)
  · go_enter Tryz.func6, Tryz.ntmps6
    go_wp2_with fail
    go_ret
    exact ⟨rfl, Below.refl _ _⟩
  have n20 : n ≤ 1048576 := by omega
  have m20 : m ≤ 1048576 := by omega
  go_enter Tryz.func6, Tryz.ntmps6
  go_wp2_with fail
  refine (specPairsOf a n c C _ HN.out.1 n20 HB.out.1 HS.out.1).mono ?_
  rintro e w1 ⟨b1, c1, L, rfl, q1, q2, q3, q4, q5, hb1⟩
  obtain ⟨l, hl⟩ : ∃ l, L.length = l := ⟨_, rfl⟩
  have HL : Hid (L.length = l ∧ GoodL L) := ⟨hl, q5⟩
  rw [hl] at q1 q3 q4 ⊢
  have hl11 : l ≤ 11 := q4
  have B1 : Hid (Below w.heap.size w w1) := hb1
  have A1 : Hid (Src w1 (some ⟨b1, 0, none⟩) (cellsP L)) := src_good q3 hl
  clear q1 q2 q3 q4 q5 hb1 hl
  go_wp2_with fail
  refine (specPairsOf ma m mc M _ HN.out.2 m20 HB.out.2 (HS.out.2.below B1.out)).mono ?_
  rintro e w2 ⟨b2, c2, K, rfl, q1, q2, q3, q4, q5, hb2⟩
  obtain ⟨j, hj⟩ : ∃ l, K.length = l := ⟨_, rfl⟩
  have HK : Hid (K.length = j ∧ GoodL K) := ⟨hj, q5⟩
  rw [hj] at q1 q3 q4 ⊢
  have hj11 : j ≤ 11 := q4
  have B2 : Hid (Below w.heap.size w w2) := B1.out.trans (hb2.mono B1.out.size)
  have A2 : Hid (Src w2 (some ⟨b1, 0, none⟩) (cellsP L)) := A1.out.below hb2
  have M2 : Hid (Src w2 (some ⟨b2, 0, none⟩) (cellsP K)) := src_good q3 hj
  clear q1 q2 q3 q4 q5 hb2 hj A1 B1
  have LL : Hid (L.length ≤ 60 ∧ K.length ≤ 60) := ⟨by rw [HL.out.1]; omega, by rw [HK.out.1]; omega⟩
  obtain ⟨E1, hE1⟩ : ∃ D, diffM [] L = D := ⟨_, rfl⟩
  obtain ⟨E2, hE2⟩ : ∃ D, diffM L K = D := ⟨_, rfl⟩
  obtain ⟨z1, hz1⟩ : ∃ s, sumL (fsP L) = s := ⟨_, rfl⟩
  obtain ⟨z2, hz2⟩ : ∃ s, sumL (fsP K) = s := ⟨_, rfl⟩
  obtain ⟨z, hz⟩ : ∃ s, linkN (⟨⟨#[]⟩, ⟨#[102, 105, 114, 115, 116]⟩, 0, E1, (z1 : Int)⟩ : BM) = s := ⟨_, rfl⟩
  have hzl : z < 4294967296 := by rw [← hz]; exact link_lt _
  obtain ⟨y, hxor, hyz, hyl⟩ := xor_one z hzl
  have P1 : Hid (mbA ⟨#[]⟩ ⟨#[102, 105, 114, 115, 116]⟩ 0 [] L = ((⟨⟨#[]⟩, ⟨#[102, 105, 114, 115, 116]⟩, 0, E1, (z1 : Int)⟩ : BM), 0) ∧ okK (⟨⟨#[]⟩, ⟨#[102, 105, 114, 115, 116]⟩, 0, E1, (z1 : Int)⟩ : BM) = true ∧ folA [] ⟨#[]⟩ 0 (⟨⟨#[]⟩, ⟨#[102, 105, 114, 115, 116]⟩, 0, E1, (z1 : Int)⟩ : BM) = (L, 0)) := by
    rw [← hE1, ← hz1]
    exact ⟨mb_made good_nil HL.out.2 (by simp) LL.out.1 (by decide) (by decide) foll_one (fun _ => rfl), okK_made good_nil HL.out.2 (by simp) LL.out.1 foll_one (sumL_lt _), fol_made good_nil HL.out.2 (by simp) LL.out.1⟩
  have P2 : Hid (mbA ⟨#[102, 105, 114, 115, 116]⟩ ⟨#[115, 101, 99, 111, 110, 100]⟩ (z : Int) L K = ((⟨⟨#[102, 105, 114, 115, 116]⟩, ⟨#[115, 101, 99, 111, 110, 100]⟩, (z : Int), E2, (z2 : Int)⟩ : BM), 0) ∧ okK (⟨⟨#[102, 105, 114, 115, 116]⟩, ⟨#[115, 101, 99, 111, 110, 100]⟩, (z : Int), E2, (z2 : Int)⟩ : BM) = true ∧ folA L ⟨#[102, 105, 114, 115, 116]⟩ (z : Int) (⟨⟨#[102, 105, 114, 115, 116]⟩, ⟨#[115, 101, 99, 111, 110, 100]⟩, (z : Int), E2, (z2 : Int)⟩ : BM) = (K, 0)) := by
    rw [← hE2, ← hz2]
    exact ⟨mb_made HL.out.2 HK.out.2 LL.out.1 LL.out.2 (by decide) (by decide) (foll_two z hzl) (fun h => absurd h (by decide)), okK_made HL.out.2 HK.out.2 LL.out.1 LL.out.2 (foll_two z hzl) (sumL_lt _), fol_made HL.out.2 HK.out.2 LL.out.1 LL.out.2⟩
  have P3 : Hid (okK (⟨⟨#[102, 105, 114, 115, 116]⟩, ⟨#[115, 101, 99, 111, 110, 100]⟩, (y : Int), E2, (z2 : Int)⟩ : BM) = true) := by
    rw [← hE2, ← hz2]
    exact okK_made HL.out.2 HK.out.2 LL.out.1 LL.out.2 (foll_two y hyl) (sumL_lt _)
  have K1 : Hid (smallK (⟨⟨#[]⟩, ⟨#[102, 105, 114, 115, 116]⟩, 0, E1, (z1 : Int)⟩ : BM) ∧ smallK (⟨⟨#[102, 105, 114, 115, 116]⟩, ⟨#[115, 101, 99, 111, 110, 100]⟩, (z : Int), E2, (z2 : Int)⟩ : BM) ∧ smallK (⟨⟨#[102, 105, 114, 115, 116]⟩, ⟨#[115, 101, 99, 111, 110, 100]⟩, (y : Int), E2, (z2 : Int)⟩ : BM)) := ⟨okK_small P1.out.2.1, okK_small P2.out.2.1, okK_small P3.out⟩
  have R1 : Hid (rpyA [] ⟨#[]⟩ 0 (⟨⟨#[]⟩, ⟨#[102, 105, 114, 115, 116]⟩, 0, E1, (z1 : Int)⟩ : BM) = (L, 0)) := by show _ = _; unfold rpyA; rw [if_neg (by decide), if_neg (by rw [P1.out.2.1]; simp [okP_nil]), P1.out.2.2]
  have Q1 : Hid (rpaA [(⟨⟨#[]⟩, ⟨#[102, 105, 114, 115, 116]⟩, 0, E1, (z1 : Int)⟩ : BM), (⟨⟨#[102, 105, 114, 115, 116]⟩, ⟨#[115, 101, 99, 111, 110, 100]⟩, (z : Int), E2, (z2 : Int)⟩ : BM)] = (K, 0)) := rpa_two P1.out.2.1 P2.out.2.1 P1.out.2.2 (by rw [hz]; exact P2.out.2.2)
  have Q2 : Hid (rpaA [(⟨⟨#[102, 105, 114, 115, 116]⟩, ⟨#[115, 101, 99, 111, 110, 100]⟩, (z : Int), E2, (z2 : Int)⟩ : BM), (⟨⟨#[]⟩, ⟨#[102, 105, 114, 115, 116]⟩, 0, E1, (z1 : Int)⟩ : BM)] = ([], 13)) := rpa_first (by simp) P2.out.2.1 (by simp [P1.out.2.1]) (fol_order (by show (⟨#[102, 105, 114, 115, 116]⟩ : ByteArray) ≠ ⟨#[]⟩; decide)) (by decide)
  have Q3 : Hid (rpaA [(⟨⟨#[102, 105, 114, 115, 116]⟩, ⟨#[115, 101, 99, 111, 110, 100]⟩, (z : Int), E2, (z2 : Int)⟩ : BM)] = ([], 13)) := rpa_first (by simp) P2.out.2.1 rfl (fol_order (by show (⟨#[102, 105, 114, 115, 116]⟩ : ByteArray) ≠ ⟨#[]⟩; decide)) (by decide)
  have Q4 : Hid (rpaA [(⟨⟨#[]⟩, ⟨#[102, 105, 114, 115, 116]⟩, 0, E1, (z1 : Int)⟩ : BM), (⟨⟨#[102, 105, 114, 115, 116]⟩, ⟨#[115, 101, 99, 111, 110, 100]⟩, (y : Int), E2, (z2 : Int)⟩ : BM)] = ([], 14)) := rpa_fail P1.out.2.1 P3.out P1.out.2.2 (by rw [hz]; exact fol_chain rfl (by show ((y : Nat) : Int) ≠ _; omega)) (by decide)
  have ZL : Hid (linkN (⟨⟨#[]⟩, ⟨#[102, 105, 114, 115, 116]⟩, 0, E1, (z1 : Int)⟩ : BM) = z) := hz
  have SUM : Hid (sumL (fsP K) = z2) := hz2
  clear hE1 hE2 hz1 hz2 hz
  have GSL : Hid (∀ x ∈ L, x.1.size ≤ 1048576 ∧ x.2.size ≤ 1048576) := good_sizes HL.out.2
  have GSK : Hid (∀ x ∈ K, x.1.size ≤ 1048576 ∧ x.2.size ≤ 1048576) := good_sizes HK.out.2
  have hyz' : ((y : Int) == (z : Int)) = false := by simp; omega
  go_wp2_with fail
  refine (implMakeBackup ⟨#[]⟩ ⟨#[102, 105, 114, 115, 116]⟩ 0 _ _ 0 l _ c1 [] L _ (by decide) (by decide) rfl HL.out.1 (by omega) (by omega) (fun x hx => by cases hx) GSL.out (.inl rfl) (A2.out.below ((Below.refl _ _).alloc (Nat.le_refl _) _)) (HH.out.below (B2.out.alloc B2.out.size _))).mono ?_
  rintro e w3 ⟨u3, D, q, rfl, hmb, own3, hb3⟩
  obtain ⟨rfl, rfl⟩ : (⟨⟨#[]⟩, ⟨#[102, 105, 114, 115, 116]⟩, 0, E1, (z1 : Int)⟩ : BM) = D ∧ (0 : Int) = q := by have h2 := P1.out.1.symm.trans hmb; simpa using h2
  obtain ⟨x1, y1, rfl⟩ := own3.lit
  obtain ⟨m1, hm1⟩ : ∃ k, E1.length = k := ⟨_, rfl⟩
  have R13 : Hid (ReadsK w3 (.agg #[.string ⟨#[]⟩, .string ⟨#[102, 105, 114, 115, 116]⟩, .int .i64 0, .slice x1 E1.length y1, .int .i64 (z1 : Int)]) (⟨⟨#[]⟩, ⟨#[102, 105, 114, 115, 116]⟩, 0, E1, (z1 : Int)⟩ : BM)) := own3.reads
  dsimp only
  rw [hm1] at R13 ⊢
  clear hmb
  have B3 : Hid (Below w.heap.size w w3) := B2.out.trans ((Below.new hb3).mono B2.out.size)
  have A3 : Hid (Src w3 (some ⟨b1, 0, none⟩) (cellsP L)) := A2.out.below (Below.new hb3)
  have M3 : Hid (Src w3 (some ⟨b2, 0, none⟩) (cellsP K)) := M2.out.below (Below.new hb3)
  clear B2 A2 M2
  have R3 : Hid (ReadsK w3 (.agg #[.string ⟨#[]⟩, .string ⟨#[102, 105, 114, 115, 116]⟩, .int .i64 0, .slice x1 m1 y1, .int .i64 (z1 : Int)]) (⟨⟨#[]⟩, ⟨#[102, 105, 114, 115, 116]⟩, 0, E1, (z1 : Int)⟩ : BM)) := R13
  clear hb3 own3 hm1 R13
  go_wp2_with fail
  refine (implReplay [] ⟨#[]⟩ 0 (⟨⟨#[]⟩, ⟨#[102, 105, 114, 115, 116]⟩, 0, E1, (z1 : Int)⟩ : BM) _ _ 0 _ _ rfl (by omega) (by decide) (fun x hx => by cases hx) K1.out.1 (.inl rfl) (R3.out.below (((Below.refl _ _).alloc (Nat.le_refl _) _).alloc (by simp) _)) (HH.out.below ((B3.out.alloc B3.out.size _).alloc (by have h9 := B3.out.size; simp; omega) _)) (HE.out.below ((B3.out.alloc B3.out.size _).alloc (by have h9 := B3.out.size; simp; omega) _))).mono ?_
  rintro e w4 ⟨u4, R, q, rfl, hr, own4, hb4⟩
  obtain ⟨rfl, rfl⟩ : L = R ∧ (0 : Int) = q := by have h2 := R1.out.symm.trans hr; simpa using h2
  obtain ⟨g4, k4, rfl, s4, _⟩ := own_src own4
  rw [HL.out.1]
  have B4 : Hid (Below w.heap.size w w4) := B3.out.trans ((Below.new (Below.new hb4)).mono B3.out.size)
  have A4 : Hid (Src w4 (some ⟨b1, 0, none⟩) (cellsP L)) := A3.out.below (Below.new (Below.new hb4))
  have M4 : Hid (Src w4 (some ⟨b2, 0, none⟩) (cellsP K)) := M3.out.below (Below.new (Below.new hb4))
  have R4 : Hid (ReadsK w4 (.agg #[.string ⟨#[]⟩, .string ⟨#[102, 105, 114, 115, 116]⟩, .int .i64 0, .slice x1 m1 y1, .int .i64 (z1 : Int)]) (⟨⟨#[]⟩, ⟨#[102, 105, 114, 115, 116]⟩, 0, E1, (z1 : Int)⟩ : BM)) := R3.out.below (Below.new (Below.new hb4))
  clear B3 A3 M3 R3
  have X4 : Hid (Box w4 w3.heap.size [.string ⟨#[]⟩, .string ⟨#[102, 105, 114, 115, 116]⟩, .int .i64 0, .slice x1 m1 y1, .int .i64 (z1 : Int)]) := Box.below (Box.old (Box.new rfl) _) hb4
  have Z4 : Hid (Src w4 g4 (cellsP L)) := s4
  clear hb4 own4 hr s4
  obtain ⟨p0, _⟩ := X4.out 0 _ rfl
  obtain ⟨p1, _⟩ := X4.out 1 _ rfl
  obtain ⟨p2, _⟩ := X4.out 2 _ rfl
  obtain ⟨p3, _⟩ := X4.out 3 _ rfl
  obtain ⟨p4, _⟩ := X4.out 4 _ rfl
  go_wp2_with fail
  refine (implBackupBytes _ (⟨⟨#[]⟩, ⟨#[102, 105, 114, 115, 116]⟩, 0, E1, (z1 : Int)⟩ : BM) _ K1.out.1 R4.out (HH.out.below B4.out)).mono ?_
  rintro e w5 ⟨u5, T5, q, rfl, heq, own5, hl5, hb5⟩
  obtain ⟨rfl, rfl⟩ : bytesK (⟨⟨#[]⟩, ⟨#[102, 105, 114, 115, 116]⟩, 0, E1, (z1 : Int)⟩ : BM) = T5 ∧ (0 : Int) = q := by have h2 := heq; unfold bkA at h2; rw [if_pos P1.out.2.1] at h2; simpa using h2
  obtain ⟨g5, k5, rfl, s5, _⟩ := own_src own5
  obtain ⟨T5, hT5⟩ : ∃ X, bytesK (⟨⟨#[]⟩, ⟨#[102, 105, 114, 115, 116]⟩, 0, E1, (z1 : Int)⟩ : BM) = X := ⟨_, rfl⟩
  obtain ⟨H5, hT6⟩ : ∃ H, T5 = H ++ numQ z := ⟨_, by rw [← hT5]; unfold bytesK; rw [ZL.out]⟩
  rw [hT5] at s5 ⊢
  obtain ⟨nb, hnb⟩ : ∃ k, T5.length = k := ⟨_, rfl⟩
  obtain ⟨nh, hnh⟩ : ∃ k, H5.length = k := ⟨_, rfl⟩
  have hnb4 : nb = nh + 4 := by rw [← hnb, hT6, List.length_append, hnh]; rfl
  rw [hnb]
  have HNB : Hid (nb = nh + 4) := hnb4
  clear hnb4
  have HT5 : Hid (T5 = H5 ++ numQ z ∧ T5.length = nb ∧ H5.length = nh) := ⟨hT6, hnb, hnh⟩
  have hlb : nb ≤ 1048576 := by rw [← hnb, ← hT5]; exact hl5
  have B5 : Hid (Below w.heap.size w w5) := B4.out.trans ((hb5).mono B4.out.size)
  have A5 : Hid (Src w5 (some ⟨b1, 0, none⟩) (cellsP L)) := A4.out.below (hb5)
  have M5 : Hid (Src w5 (some ⟨b2, 0, none⟩) (cellsP K)) := M4.out.below (hb5)
  have R5 : Hid (ReadsK w5 (.agg #[.string ⟨#[]⟩, .string ⟨#[102, 105, 114, 115, 116]⟩, .int .i64 0, .slice x1 m1 y1, .int .i64 (z1 : Int)]) (⟨⟨#[]⟩, ⟨#[102, 105, 114, 115, 116]⟩, 0, E1, (z1 : Int)⟩ : BM)) := R4.out.below (hb5)
  have X5 : Hid (Box w5 w3.heap.size [.string ⟨#[]⟩, .string ⟨#[102, 105, 114, 115, 116]⟩, .int .i64 0, .slice x1 m1 y1, .int .i64 (z1 : Int)]) := X4.out.below (hb5)
  have Z5 : Hid (Src w5 g4 (cellsP L)) := Z4.out.below (hb5)
  clear B4 A4 M4 R4 X4 Z4
  have BT5 : Hid (Src w5 g5 (cellsB T5)) := s5
  clear hb5 own5 heq s5 hl5 hT5 hT6 hnb hnh p0 p1 p2 p3 p4
  have hn4 : ¬ (nb : Int) < 4 := by have := HNB.out; omega
  go_wp2_with fail
  refine (samePairs g4 (some ⟨b1, 0, none⟩) l k4 c1 (fstL L) (sndL L) _ (by omega) (sp_of Z5.out HL.out.1) (sp_of A5.out HL.out.1)).mono ?_
  rintro e w6 ⟨rfl, hb6⟩
  have B6 : Hid (Below w.heap.size w w6) := B5.out.trans ((hb6).mono B5.out.size)
  have A6 : Hid (Src w6 (some ⟨b1, 0, none⟩) (cellsP L)) := A5.out.below (hb6)
  have M6 : Hid (Src w6 (some ⟨b2, 0, none⟩) (cellsP K)) := M5.out.below (hb6)
  have R6 : Hid (ReadsK w6 (.agg #[.string ⟨#[]⟩, .string ⟨#[102, 105, 114, 115, 116]⟩, .int .i64 0, .slice x1 m1 y1, .int .i64 (z1 : Int)]) (⟨⟨#[]⟩, ⟨#[102, 105, 114, 115, 116]⟩, 0, E1, (z1 : Int)⟩ : BM)) := R5.out.below (hb6)
  have X6 : Hid (Box w6 w3.heap.size [.string ⟨#[]⟩, .string ⟨#[102, 105, 114, 115, 116]⟩, .int .i64 0, .slice x1 m1 y1, .int .i64 (z1 : Int)]) := X5.out.below (hb6)
  have Z6 : Hid (Src w6 g4 (cellsP L)) := Z5.out.below (hb6)
  have BT6 : Hid (Src w6 g5 (cellsB T5)) := BT5.out.below (hb6)
  clear B5 A5 M5 R5 X5 Z5 BT5
  clear hb6
  go_wp2_with fail
  go_loop [13, 14] (fun xv iv => ∃ k x : Nat, k ≤ 4 ∧ iv = .int .i64 ((nh + k : Nat) : Int) ∧ xv = .int .i64 (x : Int) ∧ x < 4294967296 ∧ Hid (x = numO ((numQ z).take k))) (fun _ i => nb - (RowKit.intOf i).toNat)
  case atStart => exact ⟨0, 0, by omega, by have := HNB.out; first | (congr 1; omega) | go_num, rfl, by omega, rfl⟩
  case round =>
    obtain ⟨k, x, hk, rfl, rfl, hx, hx2⟩ := hrel
    by_cases hlt : k < 4
    · obtain ⟨b5, o5, v5, rfl, d0, hv⟩ := srcB BT6.out (i := nh + k) (by rw [HT5.out.2.1]; have := HNB.out; omega)
      have hq := numQ_at z k hlt
      have hv2 : v5 = (numQ z).getD k 0 := by
        rw [← hv.out, HT5.out.1, List.getD_eq_getElem?_getD, List.getElem?_append_right (by rw [HT5.out.2.2]; omega), HT5.out.2.2, List.getD_eq_getElem?_getD]
        congr 2; omega
      have hv8 : v5 < 256 := by rw [hv2]; exact hq.2
      have HX2 : Hid (x * 256 + v5 = numO ((numQ z).take (k + 1))) := by show _ = _; rw [hq.1, numO_snoc, ← hx2.out, ← hv2]
      have hxb : x * 256 + v5 < 4294967296 := by rw [HX2.out]; exact numO_take z (k + 1) (by omega)
      have hki : ((nh + k : Nat) : Int) < (nb : Int) := by have := HNB.out; omega
      clear hv hq hv2 hx2
      go_wp2_with fail
      go_round
      case rel => exact ⟨k + 1, x * 256 + v5, by omega, by go_num, by go_num, hxb, HX2⟩
      case measure => have := HNB.out; simp [RowKit.intOf]; omega
    · have hk4 : k = 4 := by omega
      have hxz : x = z := by rw [hx2.out, hk4]; exact numO_numQ z hzl
      have hki : ¬ ((nh + k : Nat) : Int) < (nb : Int) := by have := HNB.out; omega
      subst hxz
      clear hx2 hk4
      go_wp2_with fail
      refine (implMakeBackup ⟨#[102, 105, 114, 115, 116]⟩ ⟨#[115, 101, 99, 111, 110, 100]⟩ (x : Int) (some ⟨b1, 0, none⟩) (some ⟨b2, 0, none⟩) l j c1 c2 L K _ (by decide) (by decide) HL.out.1 HK.out.1 (by omega) (by omega) GSL.out GSK.out A6.out M6.out (HH.out.below B6.out)).mono ?_
      rintro e w7 ⟨u7, D, q, rfl, hmb, own7, hb7⟩
      obtain ⟨rfl, rfl⟩ : (⟨⟨#[102, 105, 114, 115, 116]⟩, ⟨#[115, 101, 99, 111, 110, 100]⟩, (x : Int), E2, (z2 : Int)⟩ : BM) = D ∧ (0 : Int) = q := by have h2 := P2.out.1.symm.trans hmb; simpa using h2
      obtain ⟨x2, y2, rfl⟩ := own7.lit
      obtain ⟨m2, hm2⟩ : ∃ k, E2.length = k := ⟨_, rfl⟩
      have R27 : Hid (ReadsK w7 (.agg #[.string ⟨#[102, 105, 114, 115, 116]⟩, .string ⟨#[115, 101, 99, 111, 110, 100]⟩, .int .i64 (x : Int), .slice x2 E2.length y2, .int .i64 (z2 : Int)]) (⟨⟨#[102, 105, 114, 115, 116]⟩, ⟨#[115, 101, 99, 111, 110, 100]⟩, (x : Int), E2, (z2 : Int)⟩ : BM)) := own7.reads
      dsimp only
      rw [hm2] at R27 ⊢
      clear hmb
      have B7 : Hid (Below w.heap.size w w7) := B6.out.trans ((hb7).mono B6.out.size)
      have A7 : Hid (Src w7 (some ⟨b1, 0, none⟩) (cellsP L)) := A6.out.below (hb7)
      have M7 : Hid (Src w7 (some ⟨b2, 0, none⟩) (cellsP K)) := M6.out.below (hb7)
      have R7 : Hid (ReadsK w7 (.agg #[.string ⟨#[]⟩, .string ⟨#[102, 105, 114, 115, 116]⟩, .int .i64 0, .slice x1 m1 y1, .int .i64 (z1 : Int)]) (⟨⟨#[]⟩, ⟨#[102, 105, 114, 115, 116]⟩, 0, E1, (z1 : Int)⟩ : BM)) := R6.out.below (hb7)
      have X7 : Hid (Box w7 w3.heap.size [.string ⟨#[]⟩, .string ⟨#[102, 105, 114, 115, 116]⟩, .int .i64 0, .slice x1 m1 y1, .int .i64 (z1 : Int)]) := X6.out.below (hb7)
      have Z7 : Hid (Src w7 g4 (cellsP L)) := Z6.out.below (hb7)
      have BT7 : Hid (Src w7 g5 (cellsB T5)) := BT6.out.below (hb7)
      clear B6 A6 M6 R6 X6 Z6 BT6
      have U7 : Hid (ReadsK w7 (.agg #[.string ⟨#[102, 105, 114, 115, 116]⟩, .string ⟨#[115, 101, 99, 111, 110, 100]⟩, .int .i64 (x : Int), .slice x2 m2 y2, .int .i64 (z2 : Int)]) (⟨⟨#[102, 105, 114, 115, 116]⟩, ⟨#[115, 101, 99, 111, 110, 100]⟩, (x : Int), E2, (z2 : Int)⟩ : BM)) := R27
      clear hb7 own7 hm2 R27
      have XO : Hid (Box (w7.alloc (.cells #[.string ⟨#[102, 105, 114, 115, 116]⟩, .string ⟨#[115, 101, 99, 111, 110, 100]⟩, .int .i64 (x : Int), .slice x2 m2 y2, .int .i64 (z2 : Int)] 34)) w3.heap.size [.string ⟨#[]⟩, .string ⟨#[102, 105, 114, 115, 116]⟩, .int .i64 0, .slice x1 m1 y1, .int .i64 (z1 : Int)]) := Box.old X7.out _
      obtain ⟨p0, _⟩ := XO.out 0 _ rfl
      obtain ⟨p1, _⟩ := XO.out 1 _ rfl
      obtain ⟨p2, _⟩ := XO.out 2 _ rfl
      obtain ⟨p3, _⟩ := XO.out 3 _ rfl
      obtain ⟨p4, _⟩ := XO.out 4 _ rfl
      go_wp2_with fail
      refine (implReplayAll _ 2 2 [(⟨⟨#[]⟩, ⟨#[102, 105, 114, 115, 116]⟩, 0, E1, (z1 : Int)⟩ : BM), (⟨⟨#[102, 105, 114, 115, 116]⟩, ⟨#[115, 101, 99, 111, 110, 100]⟩, (x : Int), E2, (z2 : Int)⟩ : BM)] _ rfl (by omega) (by simp only [List.mem_cons, List.not_mem_nil, or_false]; rintro D9 (rfl | rfl) <;> first | exact K1.out.1 | exact K1.out.2.1 | exact K1.out.2.2) (reads_twoB (g := w7.heap.size + 1) (V1 := (⟨⟨#[]⟩, ⟨#[102, 105, 114, 115, 116]⟩, 0, .slice x1 m1 y1, (z1 : Int)⟩ : BkV)) (V2 := (⟨⟨#[102, 105, 114, 115, 116]⟩, ⟨#[115, 101, 99, 111, 110, 100]⟩, (x : Int), .slice x2 m2 y2, (z2 : Int)⟩ : BkV)) (by simp) (R7.out.below ((Below.refl _ _).alloc (Nat.le_refl _) _)) (U7.out.below ((Below.refl _ _).alloc (Nat.le_refl _) _))) (HH.out.below (Below.alloc (B7.out.alloc B7.out.size _) (by have h9 := B7.out.size; simp; omega) _)) (HE.out.below (Below.alloc (B7.out.alloc B7.out.size _) (by have h9 := B7.out.size; simp; omega) _))).mono ?_
      rintro e w8 ⟨u8, R, q, rfl, hr, own8, hb8⟩
      obtain ⟨rfl, rfl⟩ : K = R ∧ (0 : Int) = q := by have h2 := Q1.out.symm.trans hr; simpa using h2
      obtain ⟨g8, k8, rfl, s8, _⟩ := own_src own8
      rw [HK.out.1]
      have B8 : Hid (Below w.heap.size w w8) := B7.out.trans ((Below.new (Below.new hb8)).mono B7.out.size)
      have A8 : Hid (Src w8 (some ⟨b1, 0, none⟩) (cellsP L)) := A7.out.below (Below.new (Below.new hb8))
      have M8 : Hid (Src w8 (some ⟨b2, 0, none⟩) (cellsP K)) := M7.out.below (Below.new (Below.new hb8))
      have R8 : Hid (ReadsK w8 (.agg #[.string ⟨#[]⟩, .string ⟨#[102, 105, 114, 115, 116]⟩, .int .i64 0, .slice x1 m1 y1, .int .i64 (z1 : Int)]) (⟨⟨#[]⟩, ⟨#[102, 105, 114, 115, 116]⟩, 0, E1, (z1 : Int)⟩ : BM)) := R7.out.below (Below.new (Below.new hb8))
      have X8 : Hid (Box w8 w3.heap.size [.string ⟨#[]⟩, .string ⟨#[102, 105, 114, 115, 116]⟩, .int .i64 0, .slice x1 m1 y1, .int .i64 (z1 : Int)]) := X7.out.below (Below.new (Below.new hb8))
      have Z8 : Hid (Src w8 g4 (cellsP L)) := Z7.out.below (Below.new (Below.new hb8))
      have BT8 : Hid (Src w8 g5 (cellsB T5)) := BT7.out.below (Below.new (Below.new hb8))
      have U8 : Hid (ReadsK w8 (.agg #[.string ⟨#[102, 105, 114, 115, 116]⟩, .string ⟨#[115, 101, 99, 111, 110, 100]⟩, .int .i64 (x : Int), .slice x2 m2 y2, .int .i64 (z2 : Int)]) (⟨⟨#[102, 105, 114, 115, 116]⟩, ⟨#[115, 101, 99, 111, 110, 100]⟩, (x : Int), E2, (z2 : Int)⟩ : BM)) := U7.out.below (Below.new (Below.new hb8))
      clear B7 A7 M7 R7 X7 Z7 BT7 U7
      have Y8 : Hid (Box w8 w7.heap.size [.string ⟨#[102, 105, 114, 115, 116]⟩, .string ⟨#[115, 101, 99, 111, 110, 100]⟩, .int .i64 (x : Int), .slice x2 m2 y2, .int .i64 (z2 : Int)]) := Box.below (Box.old (Box.new rfl) _) hb8
      have W8 : Hid (Src w8 g8 (cellsP K)) := s8
      clear hb8 own8 hr s8 XO p0 p1 p2 p3 p4
      obtain ⟨p0, _⟩ := X8.out 0 _ rfl
      obtain ⟨p1, _⟩ := X8.out 1 _ rfl
      obtain ⟨p2, _⟩ := X8.out 2 _ rfl
      obtain ⟨p3, _⟩ := X8.out 3 _ rfl
      obtain ⟨p4, _⟩ := X8.out 4 _ rfl
      obtain ⟨r0, _⟩ := Y8.out 0 _ rfl
      obtain ⟨r1, _⟩ := Y8.out 1 _ rfl
      obtain ⟨r2, _⟩ := Y8.out 2 _ rfl
      obtain ⟨r3, _⟩ := Y8.out 3 _ rfl
      obtain ⟨r4, _⟩ := Y8.out 4 _ rfl
      go_wp2_with fail
      refine (implReplayAll _ 2 2 [(⟨⟨#[102, 105, 114, 115, 116]⟩, ⟨#[115, 101, 99, 111, 110, 100]⟩, (x : Int), E2, (z2 : Int)⟩ : BM), (⟨⟨#[]⟩, ⟨#[102, 105, 114, 115, 116]⟩, 0, E1, (z1 : Int)⟩ : BM)] _ rfl (by omega) (by simp only [List.mem_cons, List.not_mem_nil, or_false]; rintro D9 (rfl | rfl) <;> first | exact K1.out.1 | exact K1.out.2.1 | exact K1.out.2.2) (reads_twoB (V1 := (⟨⟨#[102, 105, 114, 115, 116]⟩, ⟨#[115, 101, 99, 111, 110, 100]⟩, (x : Int), .slice x2 m2 y2, (z2 : Int)⟩ : BkV)) (V2 := (⟨⟨#[]⟩, ⟨#[102, 105, 114, 115, 116]⟩, 0, .slice x1 m1 y1, (z1 : Int)⟩ : BkV)) rfl U8.out R8.out) (HH.out.below (B8.out.alloc B8.out.size _)) (HE.out.below (B8.out.alloc B8.out.size _))).mono ?_
      rintro e w9 ⟨u9, R, q, rfl, hr, own9, hb9⟩
      obtain ⟨rfl, rfl⟩ : [] = R ∧ (13 : Int) = q := by have h2 := Q2.out.symm.trans hr; simpa using h2
      obtain ⟨g9, k9, rfl, s9, _⟩ := own_src own9
      have B9 : Hid (Below w.heap.size w w9) := B8.out.trans ((Below.new hb9).mono B8.out.size)
      have A9 : Hid (Src w9 (some ⟨b1, 0, none⟩) (cellsP L)) := A8.out.below (Below.new hb9)
      have M9 : Hid (Src w9 (some ⟨b2, 0, none⟩) (cellsP K)) := M8.out.below (Below.new hb9)
      have R9 : Hid (ReadsK w9 (.agg #[.string ⟨#[]⟩, .string ⟨#[102, 105, 114, 115, 116]⟩, .int .i64 0, .slice x1 m1 y1, .int .i64 (z1 : Int)]) (⟨⟨#[]⟩, ⟨#[102, 105, 114, 115, 116]⟩, 0, E1, (z1 : Int)⟩ : BM)) := R8.out.below (Below.new hb9)
      have X9 : Hid (Box w9 w3.heap.size [.string ⟨#[]⟩, .string ⟨#[102, 105, 114, 115, 116]⟩, .int .i64 0, .slice x1 m1 y1, .int .i64 (z1 : Int)]) := X8.out.below (Below.new hb9)
      have Z9 : Hid (Src w9 g4 (cellsP L)) := Z8.out.below (Below.new hb9)
      have BT9 : Hid (Src w9 g5 (cellsB T5)) := BT8.out.below (Below.new hb9)
      have U9 : Hid (ReadsK w9 (.agg #[.string ⟨#[102, 105, 114, 115, 116]⟩, .string ⟨#[115, 101, 99, 111, 110, 100]⟩, .int .i64 (x : Int), .slice x2 m2 y2, .int .i64 (z2 : Int)]) (⟨⟨#[102, 105, 114, 115, 116]⟩, ⟨#[115, 101, 99, 111, 110, 100]⟩, (x : Int), E2, (z2 : Int)⟩ : BM)) := U8.out.below (Below.new hb9)
      have Y9 : Hid (Box w9 w7.heap.size [.string ⟨#[102, 105, 114, 115, 116]⟩, .string ⟨#[115, 101, 99, 111, 110, 100]⟩, .int .i64 (x : Int), .slice x2 m2 y2, .int .i64 (z2 : Int)]) := Y8.out.below (Below.new hb9)
      have W9 : Hid (Src w9 g8 (cellsP K)) := W8.out.below (Below.new hb9)
      clear B8 A8 M8 R8 X8 Z8 BT8 U8 Y8 W8
      clear hb9 own9 hr s9 p0 p1 p2 p3 p4 r0 r1 r2 r3 r4
      obtain ⟨r0, _⟩ := Y9.out 0 _ rfl
      obtain ⟨r1, _⟩ := Y9.out 1 _ rfl
      obtain ⟨r2, _⟩ := Y9.out 2 _ rfl
      obtain ⟨r3, _⟩ := Y9.out 3 _ rfl
      obtain ⟨r4, _⟩ := Y9.out 4 _ rfl
      go_wp2_with fail
      refine (implReplayAll _ 1 1 [(⟨⟨#[102, 105, 114, 115, 116]⟩, ⟨#[115, 101, 99, 111, 110, 100]⟩, (x : Int), E2, (z2 : Int)⟩ : BM)] _ rfl (by omega) (by simp only [List.mem_cons, List.not_mem_nil, or_false]; rintro D9 rfl; exact K1.out.2.1) (reads_oneB (V1 := (⟨⟨#[102, 105, 114, 115, 116]⟩, ⟨#[115, 101, 99, 111, 110, 100]⟩, (x : Int), .slice x2 m2 y2, (z2 : Int)⟩ : BkV)) rfl U9.out) (HH.out.below (B9.out.alloc B9.out.size _)) (HE.out.below (B9.out.alloc B9.out.size _))).mono ?_
      rintro e w10 ⟨u10, R, q, rfl, hr, own10, hb10⟩
      obtain ⟨rfl, rfl⟩ : [] = R ∧ (13 : Int) = q := by have h2 := Q3.out.symm.trans hr; simpa using h2
      obtain ⟨g10, k10, rfl, s10, _⟩ := own_src own10
      have B10 : Hid (Below w.heap.size w w10) := B9.out.trans ((Below.new hb10).mono B9.out.size)
      have A10 : Hid (Src w10 (some ⟨b1, 0, none⟩) (cellsP L)) := A9.out.below (Below.new hb10)
      have M10 : Hid (Src w10 (some ⟨b2, 0, none⟩) (cellsP K)) := M9.out.below (Below.new hb10)
      have R10 : Hid (ReadsK w10 (.agg #[.string ⟨#[]⟩, .string ⟨#[102, 105, 114, 115, 116]⟩, .int .i64 0, .slice x1 m1 y1, .int .i64 (z1 : Int)]) (⟨⟨#[]⟩, ⟨#[102, 105, 114, 115, 116]⟩, 0, E1, (z1 : Int)⟩ : BM)) := R9.out.below (Below.new hb10)
      have X10 : Hid (Box w10 w3.heap.size [.string ⟨#[]⟩, .string ⟨#[102, 105, 114, 115, 116]⟩, .int .i64 0, .slice x1 m1 y1, .int .i64 (z1 : Int)]) := X9.out.below (Below.new hb10)
      have Z10 : Hid (Src w10 g4 (cellsP L)) := Z9.out.below (Below.new hb10)
      have BT10 : Hid (Src w10 g5 (cellsB T5)) := BT9.out.below (Below.new hb10)
      have U10 : Hid (ReadsK w10 (.agg #[.string ⟨#[102, 105, 114, 115, 116]⟩, .string ⟨#[115, 101, 99, 111, 110, 100]⟩, .int .i64 (x : Int), .slice x2 m2 y2, .int .i64 (z2 : Int)]) (⟨⟨#[102, 105, 114, 115, 116]⟩, ⟨#[115, 101, 99, 111, 110, 100]⟩, (x : Int), E2, (z2 : Int)⟩ : BM)) := U9.out.below (Below.new hb10)
      have Y10 : Hid (Box w10 w7.heap.size [.string ⟨#[102, 105, 114, 115, 116]⟩, .string ⟨#[115, 101, 99, 111, 110, 100]⟩, .int .i64 (x : Int), .slice x2 m2 y2, .int .i64 (z2 : Int)]) := Y9.out.below (Below.new hb10)
      have W10 : Hid (Src w10 g8 (cellsP K)) := W9.out.below (Below.new hb10)
      clear B9 A9 M9 R9 X9 Z9 BT9 U9 Y9 W9
      clear hb10 own10 hr s10 r0 r1 r2 r3 r4
      have V10 : Hid (ReadsK w10 (.agg #[.string ⟨#[102, 105, 114, 115, 116]⟩, .string ⟨#[115, 101, 99, 111, 110, 100]⟩, .int .i64 (y : Int), .slice x2 m2 y2, .int .i64 (z2 : Int)]) (⟨⟨#[102, 105, 114, 115, 116]⟩, ⟨#[115, 101, 99, 111, 110, 100]⟩, (y : Int), E2, (z2 : Int)⟩ : BM)) := by obtain ⟨a9, c9, e9, s9⟩ := U10.out; simp only [Value.agg.injEq, Array.mk.injEq, List.cons.injEq, Value.slice.injEq, and_true, true_and] at e9; obtain ⟨rfl, hm9, rfl⟩ := e9; exact ⟨x2, y2, by rw [hm9], s9⟩
      have XO : Hid (Box (w10.alloc (.cells #[.string ⟨#[102, 105, 114, 115, 116]⟩, .string ⟨#[115, 101, 99, 111, 110, 100]⟩, .int .i64 (y : Int), .slice x2 m2 y2, .int .i64 (z2 : Int)] 34)) w3.heap.size [.string ⟨#[]⟩, .string ⟨#[102, 105, 114, 115, 116]⟩, .int .i64 0, .slice x1 m1 y1, .int .i64 (z1 : Int)]) := Box.old X10.out _
      obtain ⟨p0, _⟩ := XO.out 0 _ rfl
      obtain ⟨p1, _⟩ := XO.out 1 _ rfl
      obtain ⟨p2, _⟩ := XO.out 2 _ rfl
      obtain ⟨p3, _⟩ := XO.out 3 _ rfl
      obtain ⟨p4, _⟩ := XO.out 4 _ rfl
      obtain ⟨r0, _⟩ := Y10.out 0 _ rfl
      obtain ⟨r1, _⟩ := Y10.out 1 _ rfl
      obtain ⟨r2, _⟩ := Y10.out 2 _ rfl
      obtain ⟨r3, _⟩ := Y10.out 3 _ rfl
      obtain ⟨r4, _⟩ := Y10.out 4 _ rfl
      go_wp2_with fail
      refine (implReplayAll _ 2 2 [(⟨⟨#[]⟩, ⟨#[102, 105, 114, 115, 116]⟩, 0, E1, (z1 : Int)⟩ : BM), (⟨⟨#[102, 105, 114, 115, 116]⟩, ⟨#[115, 101, 99, 111, 110, 100]⟩, (y : Int), E2, (z2 : Int)⟩ : BM)] _ rfl (by omega) (by simp only [List.mem_cons, List.not_mem_nil, or_false]; rintro D9 (rfl | rfl) <;> first | exact K1.out.1 | exact K1.out.2.1 | exact K1.out.2.2) (reads_twoB (g := w10.heap.size + 1) (V1 := (⟨⟨#[]⟩, ⟨#[102, 105, 114, 115, 116]⟩, 0, .slice x1 m1 y1, (z1 : Int)⟩ : BkV)) (V2 := (⟨⟨#[102, 105, 114, 115, 116]⟩, ⟨#[115, 101, 99, 111, 110, 100]⟩, (y : Int), .slice x2 m2 y2, (z2 : Int)⟩ : BkV)) (by simp) (R10.out.below ((Below.refl _ _).alloc (Nat.le_refl _) _)) (V10.out.below ((Below.refl _ _).alloc (Nat.le_refl _) _))) (HH.out.below (Below.alloc (B10.out.alloc B10.out.size _) (by have h9 := B10.out.size; simp; omega) _)) (HE.out.below (Below.alloc (B10.out.alloc B10.out.size _) (by have h9 := B10.out.size; simp; omega) _))).mono ?_
      rintro e w11 ⟨u11, R, q, rfl, hr, own11, hb11⟩
      obtain ⟨rfl, rfl⟩ : [] = R ∧ (14 : Int) = q := by have h2 := Q4.out.symm.trans hr; simpa using h2
      obtain ⟨g11, k11, rfl, s11, _⟩ := own_src own11
      have B11 : Hid (Below w.heap.size w w11) := B10.out.trans ((Below.new (Below.new hb11)).mono B10.out.size)
      have A11 : Hid (Src w11 (some ⟨b1, 0, none⟩) (cellsP L)) := A10.out.below (Below.new (Below.new hb11))
      have M11 : Hid (Src w11 (some ⟨b2, 0, none⟩) (cellsP K)) := M10.out.below (Below.new (Below.new hb11))
      have R11 : Hid (ReadsK w11 (.agg #[.string ⟨#[]⟩, .string ⟨#[102, 105, 114, 115, 116]⟩, .int .i64 0, .slice x1 m1 y1, .int .i64 (z1 : Int)]) (⟨⟨#[]⟩, ⟨#[102, 105, 114, 115, 116]⟩, 0, E1, (z1 : Int)⟩ : BM)) := R10.out.below (Below.new (Below.new hb11))
      have X11 : Hid (Box w11 w3.heap.size [.string ⟨#[]⟩, .string ⟨#[102, 105, 114, 115, 116]⟩, .int .i64 0, .slice x1 m1 y1, .int .i64 (z1 : Int)]) := X10.out.below (Below.new (Below.new hb11))
      have Z11 : Hid (Src w11 g4 (cellsP L)) := Z10.out.below (Below.new (Below.new hb11))
      have BT11 : Hid (Src w11 g5 (cellsB T5)) := BT10.out.below (Below.new (Below.new hb11))
      have U11 : Hid (ReadsK w11 (.agg #[.string ⟨#[102, 105, 114, 115, 116]⟩, .string ⟨#[115, 101, 99, 111, 110, 100]⟩, .int .i64 (x : Int), .slice x2 m2 y2, .int .i64 (z2 : Int)]) (⟨⟨#[102, 105, 114, 115, 116]⟩, ⟨#[115, 101, 99, 111, 110, 100]⟩, (x : Int), E2, (z2 : Int)⟩ : BM)) := U10.out.below (Below.new (Below.new hb11))
      have Y11 : Hid (Box w11 w7.heap.size [.string ⟨#[102, 105, 114, 115, 116]⟩, .string ⟨#[115, 101, 99, 111, 110, 100]⟩, .int .i64 (x : Int), .slice x2 m2 y2, .int .i64 (z2 : Int)]) := Y10.out.below (Below.new (Below.new hb11))
      have W11 : Hid (Src w11 g8 (cellsP K)) := W10.out.below (Below.new (Below.new hb11))
      clear B10 A10 M10 R10 X10 Z10 BT10 U10 Y10 W10
      clear hb11 own11 hr s11 V10 XO p0 p1 p2 p3 p4 r0 r1 r2 r3 r4
      go_wp2_with fail
      refine (implPairsSum (some ⟨b2, 0, none⟩) j c2 K _ HK.out.1 (by omega) GSK.out M11.out (HH.out.below B11.out)).mono ?_
      rintro e w12 ⟨⟨r, q, rfl, hps⟩, hb12⟩
      obtain ⟨rfl, rfl⟩ : z2 = r ∧ (0 : Int) = q := by unfold psA at hps; rw [if_neg (by rw [HK.out.1]; omega), if_neg (by rw [show pairsB (fK K) (fV K) K.length = true from HK.out.2.okP LL.out.2]; decide), SUM.out] at hps; simpa using hps
      have B12 : Hid (Below w.heap.size w w12) := B11.out.trans ((hb12).mono B11.out.size)
      have A12 : Hid (Src w12 (some ⟨b1, 0, none⟩) (cellsP L)) := A11.out.below (hb12)
      have M12 : Hid (Src w12 (some ⟨b2, 0, none⟩) (cellsP K)) := M11.out.below (hb12)
      have R12 : Hid (ReadsK w12 (.agg #[.string ⟨#[]⟩, .string ⟨#[102, 105, 114, 115, 116]⟩, .int .i64 0, .slice x1 m1 y1, .int .i64 (z1 : Int)]) (⟨⟨#[]⟩, ⟨#[102, 105, 114, 115, 116]⟩, 0, E1, (z1 : Int)⟩ : BM)) := R11.out.below (hb12)
      have X12 : Hid (Box w12 w3.heap.size [.string ⟨#[]⟩, .string ⟨#[102, 105, 114, 115, 116]⟩, .int .i64 0, .slice x1 m1 y1, .int .i64 (z1 : Int)]) := X11.out.below (hb12)
      have Z12 : Hid (Src w12 g4 (cellsP L)) := Z11.out.below (hb12)
      have BT12 : Hid (Src w12 g5 (cellsB T5)) := BT11.out.below (hb12)
      have U12 : Hid (ReadsK w12 (.agg #[.string ⟨#[102, 105, 114, 115, 116]⟩, .string ⟨#[115, 101, 99, 111, 110, 100]⟩, .int .i64 (x : Int), .slice x2 m2 y2, .int .i64 (z2 : Int)]) (⟨⟨#[102, 105, 114, 115, 116]⟩, ⟨#[115, 101, 99, 111, 110, 100]⟩, (x : Int), E2, (z2 : Int)⟩ : BM)) := U11.out.below (hb12)
      have Y12 : Hid (Box w12 w7.heap.size [.string ⟨#[102, 105, 114, 115, 116]⟩, .string ⟨#[115, 101, 99, 111, 110, 100]⟩, .int .i64 (x : Int), .slice x2 m2 y2, .int .i64 (z2 : Int)]) := Y11.out.below (hb12)
      have W12 : Hid (Src w12 g8 (cellsP K)) := W11.out.below (hb12)
      clear B11 A11 M11 R11 X11 Z11 BT11 U11 Y11 W11
      clear hb12 hps
      obtain ⟨r0, _⟩ := Y12.out 0 _ rfl
      obtain ⟨r1, _⟩ := Y12.out 1 _ rfl
      obtain ⟨r2, _⟩ := Y12.out 2 _ rfl
      obtain ⟨r3, _⟩ := Y12.out 3 _ rfl
      obtain ⟨r4, _⟩ := Y12.out 4 _ rfl
      go_wp2_with fail
      refine (samePairs g8 (some ⟨b2, 0, none⟩) j k8 c2 (fstL K) (sndL K) _ (by omega) (sp_of W12.out HK.out.1) (sp_of M12.out HK.out.1)).mono ?_
      rintro e w13 ⟨rfl, hb13⟩
      have s4 := (hb13.cell (p := ⟨w7.heap.size, 4, none⟩) (World.block_lt_of_cell? _ _ r4)).trans r4
      have B13 : Hid (Below w.heap.size w w13) := B12.out.trans ((hb13).mono B12.out.size)
      have A13 : Hid (Src w13 (some ⟨b1, 0, none⟩) (cellsP L)) := A12.out.below (hb13)
      have M13 : Hid (Src w13 (some ⟨b2, 0, none⟩) (cellsP K)) := M12.out.below (hb13)
      have R13 : Hid (ReadsK w13 (.agg #[.string ⟨#[]⟩, .string ⟨#[102, 105, 114, 115, 116]⟩, .int .i64 0, .slice x1 m1 y1, .int .i64 (z1 : Int)]) (⟨⟨#[]⟩, ⟨#[102, 105, 114, 115, 116]⟩, 0, E1, (z1 : Int)⟩ : BM)) := R12.out.below (hb13)
      have X13 : Hid (Box w13 w3.heap.size [.string ⟨#[]⟩, .string ⟨#[102, 105, 114, 115, 116]⟩, .int .i64 0, .slice x1 m1 y1, .int .i64 (z1 : Int)]) := X12.out.below (hb13)
      have Z13 : Hid (Src w13 g4 (cellsP L)) := Z12.out.below (hb13)
      have BT13 : Hid (Src w13 g5 (cellsB T5)) := BT12.out.below (hb13)
      have U13 : Hid (ReadsK w13 (.agg #[.string ⟨#[102, 105, 114, 115, 116]⟩, .string ⟨#[115, 101, 99, 111, 110, 100]⟩, .int .i64 (x : Int), .slice x2 m2 y2, .int .i64 (z2 : Int)]) (⟨⟨#[102, 105, 114, 115, 116]⟩, ⟨#[115, 101, 99, 111, 110, 100]⟩, (x : Int), E2, (z2 : Int)⟩ : BM)) := U12.out.below (hb13)
      have Y13 : Hid (Box w13 w7.heap.size [.string ⟨#[102, 105, 114, 115, 116]⟩, .string ⟨#[115, 101, 99, 111, 110, 100]⟩, .int .i64 (x : Int), .slice x2 m2 y2, .int .i64 (z2 : Int)]) := Y12.out.below (hb13)
      have W13 : Hid (Src w13 g8 (cellsP K)) := W12.out.below (hb13)
      clear B12 A12 M12 R12 X12 Z12 BT12 U12 Y12 W12
      clear hb13 r0 r1 r2 r3 r4
      go_wp2_with fail
      go_ret
      exact ⟨rfl, B13.out⟩
end Go.Proofs.YtmbndpgoihdpnaaGreatDoor.fnReplay
