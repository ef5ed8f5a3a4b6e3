
/-
  The walk of the law FnUsers. By an AI agent.
-/
import Derived.Test.YtddnecljdecamaaGreatDoorQ33
import Derived.Test.YtddnecljdecamaaGreatDoorQ36
namespace Go.Proofs.YtddnecljdecamaaGreatDoor
open Go.ChangeShapes Go.WideShapes Go.ChangeAt Go.RowKit Go.Deep Go.Lib
set_option linter.unusedVariables false
set_option linter.unusedSimpArgs false
set_option maxRecDepth 100000

theorem store_small {L : List PM} (h : storeB L = true) : L.length ≤ 60 ∧ ∀ x ∈ L, x.1.size ≤ 1048576 ∧ x.2.size ≤ 1048576 := by
  have hg := (store_facts h).1
  exact ⟨hg.1, fun x hx => by have := hg.2.1 x hx; omega⟩
theorem law_add {L : List PM} {p : ByteArray} (h : storeB L = true) (hp : shortB p = true) : lawM2 (addR L cyT p) (askM L [cyT, p]) = addR L cyT p := by
  have hc : shortB cyT = true := by kernel_rfl
  unfold lawM2
  rw [ask_ok h (by simp [hc, hp]), if_pos rfl]
/-- A list that lies somewhere. -/
def At (w : World) (a : Option Addr) (L : List PM) (n c : Nat) : Prop := L.length = n ∧ n ≤ c ∧ c ≤ maxLen ∧ Src w a (cellsP L)
theorem At.below {w w' : World} {a : Option Addr} {L : List PM} {n c : Nat} (h : At w a L n c) (hb : Below w.heap.size w w') : At w' a L n c := ⟨h.1, h.2.1, h.2.2.1, h.2.2.2.below hb⟩
theorem At.own {w : World} {v : Value} {L : List PM} {base : Nat} (h : w.ownsRow base 68 2 v L.length (cellsP L)) : ∃ a n c, v = .slice a n c ∧ At w a L n c := by
  obtain ⟨a, c, rfl, hs, _⟩ := own_src h
  exact ⟨a, _, c, rfl, rfl, (own_capx h).1, (own_capx h).2, hs⟩
set_option maxHeartbeats 8000000 in
theorem usersWalk (a : Option Addr) (c : Nat) (C : List Nat) (w : World) (h : Src w a (cellsB C)) (hC9 : C.length ≤ maxLen) (hlt : ∀ x ∈ C, x < 256) (hG : Gl w) (h8 : 8 ≤ w.heap.size) :
    Calls Tryz.prog 7 #[.slice a C.length c] w fun e w' => e = .returned (.bool true) ∧ Below w.heap.size w w' := by
  unfold maxLen at hC9
  obtain ⟨n, hn⟩ : ∃ n, C.length = n := ⟨_, rfl⟩
  have HN : Hid (C.length = n ∧ (∀ x ∈ C, x < 256) ∧ Src w a (cellsB C)) := ⟨hn, hlt, h⟩
  have HG : Hid (Gl w) := hG
  rw [hn] at hC9
  rw [hn]
  clear hlt h hn hG
  by_cases t1 : (1048576 : Int) < (n : Int)
  · go_enter Tryz.func7, Tryz.ntmps7
    go_wp2_with fail
    go_ret
    exact ⟨rfl, Below.refl _ _⟩
  have n20 : n ≤ 1048576 := by omega
  go_enter Tryz.func7, Tryz.ntmps7
  go_wp2_with fail
  refine (specMailsOf a n c C w HN.out.1 n20 HN.out.2.1 HN.out.2.2).mono ?_
  rintro e w1 ⟨v, L, rfl, ⟨k, hk, hD⟩, ho1, hb1⟩
  obtain ⟨a1, l1, c1, rfl, hA1⟩ := At.own ho1
  have A1 : Hid (At w1 a1 L l1 c1) := hA1
  have B1 : Hid (Below w.heap.size w w1) := hb1
  have HD : Hid (Drawn k L) := hD
  obtain ⟨R, q, hR⟩ : ∃ R q, addR L cyT secT = (R, q) := ⟨_, _, rfl⟩
  obtain ⟨hps, hcase⟩ := users_add (by omega) hD hR
  have HP : Hid (passM L cyT = (⟨#[]⟩, 15)) := hps
  have HA : Hid ((q = 7 ∧ R = L) ∨ (q = 0 ∧ Added L R)) := hcase
  have hsec : shortB secT = true := by kernel_rfl
  have HQ : Hid (lawM2 (addR L cyT secT) (askM L [cyT, secT]) = (R, q)) := by show _ = _; rw [law_add hD.st hsec, hR]
  have HZ : Hid (L.length ≤ 60 ∧ ∀ x ∈ L, x.1.size ≤ 1048576 ∧ x.2.size ≤ 1048576) := store_small hD.st
  have hl60 : l1 ≤ 60 := by rw [← hA1.1]; exact HZ.out.1
  have HRS : Hid (storeB R = true) := by
    rcases hcase with ⟨_, rfl⟩ | ⟨_, hA⟩
    · exact hD.st
    · exact hA.st
  clear hb1 ho1 hA1 hD hR hps hcase hsec hk
  go_wp2_with fail
  refine (implAddUser a1 l1 c1 L cyT secT w1 A1.out.1 (by omega) HZ.out.2 A1.out.2.2.2 (by decide) (by decide) (HG.out.below h8 B1.out) (by have := B1.out.size; omega) R q HQ).mono ?_
  rintro e w2 ⟨v2, rfl, ho2, hb2⟩
  obtain ⟨a2, l2, c2, rfl, hA2⟩ := At.own ho2
  have A2 : Hid (At w2 a1 L l1 c1 ∧ At w2 a2 R l2 c2) := ⟨A1.out.below hb2, hA2⟩
  have B2 : Hid (Below w.heap.size w w2) := B1.out.trans (hb2.mono B1.out.size)
  have HZR : Hid (R.length ≤ 60 ∧ ∀ x ∈ R, x.1.size ≤ 1048576 ∧ x.2.size ≤ 1048576) := store_small HRS.out
  have hl2 : l2 ≤ 60 := by rw [← hA2.1]; exact HZR.out.1
  clear hb2 ho2 hA2 A1
  go_wp2_with fail
  refine (specAddUser a1 l1 c1 L cyT secT w2 A2.out.1.1 (by omega) A2.out.1.2.1 A2.out.1.2.2.1 HZ.out.2 A2.out.1.2.2.2 (by decide) (by decide) R q HQ).mono ?_
  rintro e w3 ⟨v3, rfl, ho3, hb3⟩
  obtain ⟨a3, l3, c3, rfl, hA3⟩ := At.own ho3
  obtain rfl : l3 = l2 := by rw [← hA3.1, ← A2.out.2.1]
  have A3 : Hid (At w3 a1 L l1 c1 ∧ At w3 a2 R l3 c2 ∧ At w3 a3 R l3 c3) := ⟨A2.out.1.below hb3, A2.out.2.below hb3, hA3⟩
  have B3 : Hid (Below w.heap.size w w3) := B2.out.trans (hb3.mono B2.out.size)
  clear hb3 ho3 hA3 A2 HQ
  rcases HA.out with ⟨rfl, _⟩ | ⟨rfl, hAd⟩
  · have CS := samePairsM a2 a3 l3 c2 c3 R w3 A3.out.2.1.1 (by omega) A3.out.2.1.2.2.2 A3.out.2.2.2.2.2
    clear HA
    go_wp2_with fail
    refine CS.mono ?_
    rintro e w4 ⟨rfl, hb4⟩
    have B4 : Hid (Below w.heap.size w w4) := B3.out.trans (hb4.mono B3.out.size)
    clear hb4 CS
    go_wp2_with fail
    go_ret
    exact ⟨rfl, B4.out⟩
  have AD : Hid (Added L R) := hAd
  have CS := samePairsM a2 a3 l3 c2 c3 R w3 A3.out.2.1.1 (by omega) A3.out.2.1.2.2.2 A3.out.2.2.2.2.2
  clear HA hAd
  go_wp2_with fail
  refine CS.mono ?_
  rintro e w4 ⟨rfl, hb4⟩
  have A4 : Hid (At w4 a1 L l1 c1 ∧ At w4 a2 R l3 c2) := ⟨A3.out.1.below hb4, A3.out.2.1.below hb4⟩
  have B4 : Hid (Below w.heap.size w w4) := B3.out.trans (hb4.mono B3.out.size)
  clear hb4 CS A3
  go_wp2_with fail
  refine (implUserPass a2 l3 c2 R cyT w4 A4.out.2.1 (by omega) HZR.out.2 A4.out.2.2.2.2 (by decide) (HG.out.below h8 B4.out) (by have := B4.out.size; omega) ⟨#[115, 101, 99, 114, 101, 116]⟩ 0 AD.out.ps).mono ?_
  rintro e w5 ⟨rfl, hb5⟩
  have A5 : Hid (At w5 a1 L l1 c1 ∧ At w5 a2 R l3 c2) := ⟨A4.out.1.below hb5, A4.out.2.below hb5⟩
  have B5 : Hid (Below w.heap.size w w5) := B4.out.trans (hb5.mono B4.out.size)
  clear hb5 A4
  go_wp2_with fail
  refine (implFolderAt a2 l3 c2 R cyT inboxT w5 A5.out.2.1 (by omega) HZR.out.2 A5.out.2.2.2.2 (by decide) (by decide) (HG.out.below h8 B5.out) (by have := B5.out.size; omega)).mono ?_
  rintro e w6 ⟨nm, va, nx, a6, n6, c6, Ms, q6, rfl, hfa, hMs, _, hb6⟩
  obtain ⟨v9, hv9⟩ := AD.out.fa
  rw [hv9] at hfa
  injection hfa with hfa hq6
  injection hfa with e1 hfa
  injection hfa with e2 hfa
  injection hfa with e3 e4
  subst e4
  subst hq6
  obtain rfl : 0 = n6 := hMs
  have A6 : Hid (At w6 a1 L l1 c1 ∧ At w6 a2 R l3 c2) := ⟨A5.out.1.below hb6, A5.out.2.below hb6⟩
  have B6 : Hid (Below w.heap.size w w6) := B5.out.trans (hb6.mono B5.out.size)
  obtain ⟨w7, hw7⟩ : ∃ W, w6.alloc (.cells #[.string nm, .int .i64 va, .int .i64 nx, .slice a6 0 c6] 28) = W := ⟨_, rfl⟩
  have hb7 : Below w6.heap.size w6 w7 := by rw [← hw7]; exact (Below.refl _ _).alloc (Nat.le_refl _) _
  have X7 : Hid (Box w7 w6.heap.size [.string nm, .int .i64 va, .int .i64 nx, .slice a6 0 c6]) := by show Box _ _ _; rw [← hw7]; exact Box.new rfl
  have A7 : Hid (At w7 a1 L l1 c1 ∧ At w7 a2 R l3 c2) := ⟨A6.out.1.below hb7, A6.out.2.below hb7⟩
  have B7 : Hid (Below w.heap.size w w7) := B6.out.trans (hb7.mono B6.out.size)
  have CT := implAddUser a2 l3 c2 R cyT othT w7 A7.out.2.1 (by omega) HZR.out.2 A7.out.2.2.2.2 (by decide) (by decide) (HG.out.below h8 B7.out) (by have := B7.out.size; omega) R 9 AD.out.tw
  clear hb6 hb7 A5 A6 hv9 e1 e2 e3
  go_wp2_with fail
  refine CT.mono ?_
  rintro e w8 ⟨v8, rfl, _, hb8⟩
  have A8 : Hid (At w8 a1 L l1 c1 ∧ At w8 a2 R l3 c2) := ⟨A7.out.1.below hb8, A7.out.2.below hb8⟩
  have B8 : Hid (Below w.heap.size w w8) := B7.out.trans (hb8.mono B7.out.size)
  have X8 : Hid (Box w8 w6.heap.size [.string nm, .int .i64 va, .int .i64 nx, .slice a6 0 c6]) := Box.below X7.out hb8
  clear hb8 CT A7 X7 hw7
  go_wp2_with fail
  refine (implUserPass a1 l1 c1 L cyT w8 A8.out.1.1 (by omega) HZ.out.2 A8.out.1.2.2.2 (by decide) (HG.out.below h8 B8.out) (by have := B8.out.size; omega) ⟨#[]⟩ 15 HP.out).mono ?_
  rintro e w9 ⟨rfl, hb9⟩
  have A9 : Hid (At w9 a2 R l3 c2) := A8.out.2.below hb9
  have B9 : Hid (Below w.heap.size w w9) := B8.out.trans (hb9.mono B8.out.size)
  have X9 : Hid (Box w9 w6.heap.size [.string nm, .int .i64 va, .int .i64 nx, .slice a6 0 c6]) := Box.below X8.out hb9
  obtain ⟨x93, _⟩ := X9.out 3 _ rfl
  have CM := fun W (hW : Below w9.heap.size w9 W) => implMailStoreOK a2 l3 c2 R W A9.out.1 (by omega) HZR.out.2 (A9.out.2.2.2.below hW) (HG.out.below h8 (B9.out.trans (hW.mono B9.out.size))) (by have := B9.out.size; have := hW.size; omega) true (by show implB R = true; rw [impl_store, AD.out.st])
  have CM9 := CM w9 (Below.refl _ _)
  clear hb9 A8 X8
  go_wp2_with fail
  refine CM9.mono ?_
  rintro e w10 ⟨rfl, hb10⟩
  have B10 : Hid (Below w.heap.size w w10) := B9.out.trans (hb10.mono B9.out.size)
  clear hb10 CM CM9
  go_wp2_with fail
  go_ret
  exact ⟨rfl, B10.out⟩
end Go.Proofs.YtddnecljdecamaaGreatDoor
