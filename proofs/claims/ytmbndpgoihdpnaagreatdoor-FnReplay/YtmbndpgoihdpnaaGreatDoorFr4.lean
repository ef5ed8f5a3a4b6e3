/-
  Rb2 Rb4 Difr Frq Xr1. By an AI agent.
-/
import Derived.Test.YtmbndpgoihdpnaaGreatDoorApi
import Derived.Test.YtmbndpgoihdpnaaGreatDoorFr2
import Derived.Test.YtmbndpgoihdpnaaGreatDoorRb1
import Derived.Test.YtmbndpgoihdpnaaGreatDoorFr3
import Derived.Test.YtmbndpgoihdpnaaGreatDoorDlen
import Derived.Test.YtmbndpgoihdpnaaGreatDoorBoxes
import Derived.LaidEql
import Derived.Stop.Asserts
import Derived.RowKitTokens
import Derived.Laws.BitsAllLaws
namespace Go.Proofs.YtmbndpgoihdpnaaGreatDoor
open Go.ChangeShapes Go.WideShapes Go.ChangeAt Go.RowKit Go.Deep
set_option linter.unusedVariables false
set_option linter.unusedSimpArgs false
set_option maxRecDepth 100000

/-- A chain that is replayed on. -/
def rgoA : List BM → List PM → ByteArray → Int → List PM × Int
  | [], P, _, _ => (P, 0)
  | D :: H, P, l, c => if (folA P l c D).2 ≠ 0 then ([], (folA P l c D).2) else rgoA H (folA P l c D).1 D.T ((linkN D : Nat) : Int)
def rbA (H : List BM) : List PM × Int := if H.all okK = true then rgoA H [] ⟨#[]⟩ 0 else ([], 1)
def rpaA (H : List BM) : List PM × Int := if 4096 < H.length then ([], 2) else if 20 < H.length then ([], 6) else rbA H
theorem okP_nil : okP [] = true := by decide
theorem rgo_bad {H : List BM} {P : List PM} {l : ByteArray} {c : Int} {D : BM} {R : List PM} {q : Int} (h : folA P l c D = (R, q)) (hq : q ≠ 0) : rgoA (D :: H) P l c = ([], q) := by rw [rgoA, h, if_pos hq]
theorem rgo_good {H : List BM} {P : List PM} {l : ByteArray} {c : Int} {D : BM} {R : List PM} (h : folA P l c D = (R, 0)) : rgoA (D :: H) P l c = rgoA H R D.T ((linkN D : Nat) : Int) := by rw [rgoA, h, if_neg (by simp)]
theorem take_snocR {H : List BM} {k : Nat} {D : BM} (hk : k < H.length) (h : H.getD k bk0 = D) : H.take (k + 1) = H.take k ++ [D] := by
  rw [List.take_succ_eq_append_getElem hk, ← h, List.getD_eq_getElem?_getD, List.getElem?_eq_getElem hk]; rfl
theorem drop_consR {H : List BM} {k : Nat} {D : BM} (hk : k < H.length) (h : H.getD k bk0 = D) : H.drop k = D :: H.drop (k + 1) := by
  rw [List.drop_eq_getElem_cons hk, ← h, List.getD_eq_getElem?_getD, List.getElem?_eq_getElem hk]; rfl
theorem all_badR {H : List BM} {k : Nat} {D : BM} (hk : k < H.length) (h : H.getD k bk0 = D) (hb : okK D = false) : rbA H = ([], 1) := by
  unfold rbA
  rw [if_neg]
  have : H.all okK = false := by
    rw [List.all_eq_false]
    exact ⟨D, by rw [← h]; exact getD_memB H k hk, by rw [hb]; decide⟩
  rw [this]; decide
theorem all_atR {H : List BM} {k : Nat} {D : BM} (ha : H.all okK = true) (hk : k < H.length) (h : H.getD k bk0 = D) : okK D = true := by
  rw [List.all_eq_true] at ha
  exact ha D (by rw [← h]; exact getD_memB H k hk)

end Go.Proofs.YtmbndpgoihdpnaaGreatDoor
namespace Go.Proofs.YtmbndpgoihdpnaaGreatDoor
open Go.ChangeShapes Go.WideShapes Go.ChangeAt Go.RowKit Go.Deep Go.Extern.Stop Go.Stop Go.Extern
set_option linter.unusedVariables false
set_option maxRecDepth 100000

theorem xNoAsP (v : Value) (xT : TypeId) (w : World) : (Instr.typeAssert (.iface 124 v) xT 188 true).run Tryz.prog w = .ok (.tuple #[.nilIface, .bool false]) w := run_typeAssert_lacksB Tryz.underlying188 (by kernel_rfl) (by kernel_rfl) v xT w
theorem xHasUnwP (v : Value) (xT : TypeId) (w : World) : (Instr.typeAssert (.iface 124 v) xT 191 true).run Tryz.prog w = .ok (.tuple #[.iface 124 v, .bool true]) w := run_typeAssert_hasB Tryz.underlying191 (by kernel_rfl) v xT w
theorem xmUnw (z : Value) (w : World) : (Go.method 354 124 z "Unwrap").run Tryz.prog w = .ok (174, z) w := by kernel_rfl
theorem xTypeOfP (v : Value) (w : World) : (ReflectliteType.typeOf #[.iface 124 v]).run Tryz.prog w = .ok (.iface 184 (.agg #[.pointer (some ⟨4, 124, none⟩)])) w := by kernel_rfl
theorem xAssignP (w : World) : (ReflectliteType.relation "AssignableTo" ReflectliteType.assignableTo #[.agg #[.pointer (some ⟨4, 124, none⟩)], .iface 184 (.agg #[.pointer (some ⟨4, 113, none⟩)])]).run Tryz.prog w = .ok (.bool false) w := by kernel_rfl

set_option maxHeartbeats 8000000 in
theorem as_hitP (e t : Addr) (eb : Nat) (old : Value) (w : World) (hp : w.cell? ⟨eb, 1, none⟩ = some (.iface 113 (.pointer (some e)))) (hg : HasErr w) (ht0 : w.cell? t = some old) (hf0 : w.frozen? t = false) :
    Calls Tryz.prog 77 #[.iface 124 (.pointer (some ⟨eb, 0, none⟩)), .iface 117 (.pointer (some t))] w fun ev w' => ev = .returned (.bool true) ∧ w' = (((((w.alloc (.cells #[.pointer (some t)] 117)).alloc (.cells #[.pointer (some ⟨4, 117, none⟩), .pointer (some ⟨w.heap.size, 0, none⟩), .int .u64 150] 153)).alloc (.cells #[.pointer (some ⟨4, 117, none⟩), .pointer (some ⟨w.heap.size, 0, none⟩), .int .u64 150] 153)).alloc (.cells #[.pointer (some e)] 113))).setCell t (.pointer (some e)) := by
  have h6 := @run_callFunc_extern Tryz.prog 105 _ (fun args => ReflectliteValue.unpack (args.getD 0 (.tuple #[]))) Tryz.func105 (by kernel_rfl) (by kernel_rfl) (by kernel_rfl) (by kernel_rfl)
  have h7 := @run_callFunc_extern Tryz.prog 106 _ (ReflectliteValue.methodAny (ReflectliteValue.valueError "reflectlite.Value.Type" 0) (fun t _ _ _ => ReflectliteType.toType t)) Tryz.func106 (by kernel_rfl) (by kernel_rfl) (by kernel_rfl) (by kernel_rfl)
  have h8 := @run_callFunc_extern Tryz.prog 107 _ (ReflectliteValue.method (ReflectliteValue.valueError "reflectlite.Value.IsNil" 0) ReflectliteValue.isNil) Tryz.func107 (by kernel_rfl) (by kernel_rfl) (by kernel_rfl) (by kernel_rfl)
  have h27 := @run_callFunc_extern Tryz.prog 168 _ (ReflectliteType.abiMethod fun t => do pure (.int .u8 (← Rtype.kind t))) Tryz.func168 (by kernel_rfl) (by kernel_rfl) (by kernel_rfl) (by kernel_rfl)
  have h37 := @run_callFunc_extern Tryz.prog 181 _ (ReflectliteType.method ReflectliteType.elem) Tryz.func181 (by kernel_rfl) (by kernel_rfl) (by kernel_rfl) (by kernel_rfl)
  have h38 := @run_callFunc_extern Tryz.prog 182 _ (ReflectliteType.relation "Implements" ReflectliteType.implements_) Tryz.func182 (by kernel_rfl) (by kernel_rfl) (by kernel_rfl) (by kernel_rfl)
  have h10 := @run_callFunc_extern Tryz.prog 109 _ ReflectliteType.typeOf Tryz.func109 (by kernel_rfl) (by kernel_rfl) (by kernel_rfl) (by kernel_rfl)
  have h35 := @run_callFunc_extern Tryz.prog 179 _ (ReflectliteType.relation "AssignableTo" ReflectliteType.assignableTo) Tryz.func179 (by kernel_rfl) (by kernel_rfl) (by kernel_rfl) (by kernel_rfl)
  have h11 := @run_callFunc_extern Tryz.prog 127 _ (ReflectliteValue.method (ReflectliteValue.valueError "reflectlite.Value.Elem" 0) ReflectliteValue.elem) Tryz.func127 (by kernel_rfl) (by kernel_rfl) (by kernel_rfl) (by kernel_rfl)
  have h12 := @run_callFunc_extern Tryz.prog 128 _ ReflectliteValue.set Tryz.func128 (by kernel_rfl) (by kernel_rfl) (by kernel_rfl) (by kernel_rfl)
  have tO := xTypeOf
  have mA := xmAssign
  have a25 := xAssign
  have v25 := xValueOfR
  have f6 := xValueOf
  have f7 := xType
  have mK := xmKind
  have mE := xmElem
  have mI := xmImpl
  have k27 := xKindRR
  have k25 := xKindR
  have e27 := xElem
  have i25 := xImpl
  have tP := xTypeOfP
  have aP := xAssignP
  have nA := xNoAsP
  have hU := xHasUnwP
  have mU := xmUnw
  have n8 := xIsNil ⟨w.heap.size, 0, none⟩ t ((w.alloc (.cells #[.pointer (some t)] 117)).alloc (.cells #[.pointer (some ⟨4, 117, none⟩), .pointer (some ⟨w.heap.size, 0, none⟩), .int .u64 150] 153)) (by simp)
  have hlt : 1 < w.heap.size := World.block_lt_of_cell? _ _ hg
  have hg2 : ((w.alloc (.cells #[.pointer (some t)] 117)).alloc (.cells #[.pointer (some ⟨4, 117, none⟩), .pointer (some ⟨w.heap.size, 0, none⟩), .int .u64 150] 153)).cell? ⟨1, 0, none⟩ = some (.iface 184 (.agg #[.pointer (some ⟨4, 77, none⟩)])) := by
    rw [World.cell?_alloc_lt _ _ ⟨1, 0, none⟩ (by simp; omega), World.cell?_alloc_lt _ _ ⟨1, 0, none⟩ hlt]; exact hg
  have hpl : eb < w.heap.size := World.block_lt_of_cell? _ _ hp
  have hp3 : (((w.alloc (.cells #[.pointer (some t)] 117)).alloc (.cells #[.pointer (some ⟨4, 117, none⟩), .pointer (some ⟨w.heap.size, 0, none⟩), .int .u64 150] 153)).alloc (.cells #[.pointer (some ⟨4, 117, none⟩), .pointer (some ⟨w.heap.size, 0, none⟩), .int .u64 150] 153)).cell? ⟨eb, 1, none⟩ = some (.iface 113 (.pointer (some e))) := by
    rw [World.cell?_alloc_lt _ _ ⟨eb, 1, none⟩ (by simp; omega), World.cell?_alloc_lt _ _ ⟨eb, 1, none⟩ (by simp; omega), World.cell?_alloc_lt _ _ ⟨eb, 1, none⟩ hpl]; exact hp
  have htl : t.block < w.heap.size := by
    rcases Nat.lt_or_ge t.block w.heap.size with h | h
    · exact h
    · simp [World.cell?, Array.getElem?_eq_none h] at ht0
  have el := xElemV ⟨w.heap.size, 0, none⟩ t (((w.alloc (.cells #[.pointer (some t)] 117)).alloc (.cells #[.pointer (some ⟨4, 117, none⟩), .pointer (some ⟨w.heap.size, 0, none⟩), .int .u64 150] 153)).alloc (.cells #[.pointer (some ⟨4, 117, none⟩), .pointer (some ⟨w.heap.size, 0, none⟩), .int .u64 150] 153)) (by rw [World.cell?_alloc_lt _ _ ⟨w.heap.size, 0, none⟩ (by simp; omega)]; simp)
  have st := xSet t ⟨w.heap.size + 1 + 1 + 1, 0, none⟩ e old ((((w.alloc (.cells #[.pointer (some t)] 117)).alloc (.cells #[.pointer (some ⟨4, 117, none⟩), .pointer (some ⟨w.heap.size, 0, none⟩), .int .u64 150] 153)).alloc (.cells #[.pointer (some ⟨4, 117, none⟩), .pointer (some ⟨w.heap.size, 0, none⟩), .int .u64 150] 153)).alloc (.cells #[.pointer (some e)] 113))
    (by rw [World.cell?_alloc_at _ _ _ _ (by simp)]; rfl)
    (by rw [World.cell?_alloc_lt _ _ t (by simp; omega), World.cell?_alloc_lt _ _ t (by simp; omega), World.cell?_alloc_lt _ _ t (by simp; omega), World.cell?_alloc_lt _ _ t htl]; exact ht0)
    (by rw [World.frozen?_alloc_old _ _ t (by simp; omega), World.frozen?_alloc_old _ _ t (by simp; omega), World.frozen?_alloc_old _ _ t (by simp; omega), World.frozen?_alloc_old _ _ t (Nat.ne_of_lt htl)]; exact hf0)
  go_enter Tryz.func77, Tryz.ntmps77
  go_wp2
  refine wp_loop_rounds 2 ?_
  rw [rounds_succ]
  go_wp2
  rw [rounds_succ]
  go_wp2
  go_ret
  exact ⟨rfl, rfl⟩

set_option maxHeartbeats 2000000 in
theorem codeInP (eb ep : Nat) (k q : Int) (w : World) (hb : Box w eb [.int .i64 q]) (hp : Box w ep [.int .i64 k, .iface 113 (.pointer (some ⟨eb, 0, none⟩))]) (hE : HasErr w) :
    Calls Tryz.prog 46 #[.iface 124 (.pointer (some ⟨ep, 0, none⟩))] w fun e w' => e = .returned (.int .i64 q) ∧ Below w.heap.size w w' := by
  obtain ⟨hq, _⟩ := hb 0 _ rfl
  obtain ⟨hr, _⟩ := hp 1 _ rfl
  have hlt : eb < w.heap.size := World.block_lt_of_cell? _ _ hq
  have HQ : Hid (w.cell? ⟨eb, 0, none⟩ = some (.int .i64 q)) := hq
  have HR : Hid (w.cell? ⟨ep, 1, none⟩ = some (.iface 113 (.pointer (some ⟨eb, 0, none⟩)))) := hr
  have HE : Hid (HasErr w) := hE
  have hlr : ep < w.heap.size := World.block_lt_of_cell? _ _ hr
  clear hq hr hb hp hE
  go_enter Tryz.func46, Tryz.ntmps46
  go_wp2_with fail
  refine (as_hitP ⟨eb, 0, none⟩ ⟨w.heap.size, 0, none⟩ ep (.pointer none) _ (by rw [World.cell?_alloc_lt _ _ _ hlr]; exact HR.out) (HE.out.below ((Below.refl _ _).alloc (Nat.le_refl _) _)) (by simp) (by simp)).mono ?_
  rintro e w1 ⟨rfl, hw1⟩
  have h1 : w1.cell? ⟨w.heap.size, 0, none⟩ = some (.pointer (some ⟨eb, 0, none⟩)) := by
    rw [hw1]
    exact World.cell?_setCell_same _ _ _ (u := .pointer none) (by
      rw [World.cell?_alloc_lt _ _ _ (by simp; omega), World.cell?_alloc_lt _ _ _ (by simp; omega), World.cell?_alloc_lt _ _ _ (by simp; omega), World.cell?_alloc_lt _ _ _ (by simp)]; simp)
  have B1 : Below w.heap.size w w1 := by
    rw [hw1]
    exact Below.setCell (((((((Below.refl _ _).alloc (Nat.le_refl _) _).alloc (by simp) _).alloc (by simp; omega) _).alloc (by simp; omega) _).alloc (by simp; omega) _)) (by dsimp only; omega) _
  have h2 : w1.cell? ⟨eb, 0, none⟩ = some (.int .i64 q) := (B1.cell (p := ⟨eb, 0, none⟩) hlt).trans HQ.out
  have HB : Hid (Below w.heap.size w w1) := B1
  clear hw1 B1
  go_wp2_with fail
  go_ret
  exact ⟨rfl, HB.out⟩
theorem chainFault (n : Nat) (w : World) : Calls Tryz.prog 52 #[.int .i64 (n : Int)] w fun e w' => e = .returned (.int .i64 (if 4096 < n then 2 else if 20 < n then 6 else 0)) ∧ w' = w := by
  by_cases t1 : (4096 : Int) < (n : Int)
  · have E : Hid ((if 4096 < n then (2 : Int) else if 20 < n then 6 else 0) = 2) := by show _ = _; rw [if_pos (by omega)]
    rw [E.out]
    go_enter Tryz.func52, Tryz.ntmps52
    go_wp2_with fail
    go_ret
    exact ⟨rfl, rfl⟩
  by_cases t2 : (20 : Int) < (n : Int)
  · have E : Hid ((if 4096 < n then (2 : Int) else if 20 < n then 6 else 0) = 6) := by show _ = _; rw [if_neg (by omega), if_pos (by omega)]
    rw [E.out]
    go_enter Tryz.func52, Tryz.ntmps52
    go_wp2_with fail
    go_ret
    exact ⟨rfl, rfl⟩
  have E : Hid ((if 4096 < n then (2 : Int) else if 20 < n then 6 else 0) = 0) := by show _ = _; rw [if_neg (by omega), if_neg (by omega)]
  rw [E.out]
  go_enter Tryz.func52, Tryz.ntmps52
  go_wp2_with fail
  go_ret
  exact ⟨rfl, rfl⟩

set_option maxHeartbeats 8000000 in
theorem replayedI (a : Option Addr) (n c : Nat) (H : List BM) (w : World) (hL : H.length = n) (hn : n ≤ 1048576) (hs : ∀ D ∈ H, smallK D) (h : ReadsBL w a H) (hH : HasHalf w) :
    Calls Tryz.prog 53 #[.slice a n c] w fun e w' =>
      (∃ (eb ep : Nat) (k q : Int), e = .returned (.tuple #[.slice none 0 0, .iface 124 (.pointer (some ⟨ep, 0, none⟩))]) ∧ rbA H = ([], q) ∧ Box w' eb [.int .i64 q] ∧ Box w' ep [.int .i64 k, .iface 113 (.pointer (some ⟨eb, 0, none⟩))] ∧ Below w.heap.size w w') ∨
      (∃ (u : Value) (R : List PM), e = .returned (.tuple #[u, .nilIface]) ∧ rbA H = (R, 0) ∧ w'.ownsRow w.heap.size 70 2 u R.length (cellsP R) ∧ Below w.heap.size w w') := by
  have HH : Hid (ReadsBL w a H) := h
  have HL : Hid (H.length = n) := hL
  have HF9 : Hid (HasHalf w) := hH
  have HS : Hid (∀ i, i < n → smallK (H.getD i bk0)) := fun i hi => hs _ (getD_memB H i (by omega))
  clear h hs hL hH
  go_enter Tryz.func53, Tryz.ntmps53
  go_wp2_with fail
  go_loopw [12] (fun i wr => ∃ (k : Nat), k ≤ n ∧ i = .int .i64 (k : Int) ∧ Hid ((H.take k).all okK = true) ∧ Hid (Below w.heap.size w wr)) (fun i _ => n - (RowKit.intOf i).toNat)
  case atStart => exact ⟨0, by omega, rfl, by simp [Hid], Below.refl _ _⟩
  case round =>
    obtain ⟨k, hk, rfl, hall, hb⟩ := hrel
    by_cases hlt : k < n
    · have hki : (k : Int) < (n : Int) := by omega
      obtain ⟨b1, o1, D, a1, c1, rfl, r0, r1, r2, r3, r4, hD, hR⟩ := srcBk (HH.out.below hb.out) (i := k) (by rw [HL.out]; exact hlt)
      have SD : Hid (smallK D) := by show smallK D; rw [← hD.out]; exact HS.out k hlt
      have KH : Hid (k < H.length ∧ H.getD k bk0 = D) := ⟨by rw [HL.out]; exact hlt, hD.out⟩
      obtain ⟨F, hF⟩ : ∃ A, D.F = A := ⟨_, rfl⟩
      obtain ⟨T, hT⟩ : ∃ A, D.T = A := ⟨_, rfl⟩
      obtain ⟨C, hC⟩ : ∃ A, D.C = A := ⟨_, rfl⟩
      obtain ⟨S, hS⟩ : ∃ A, D.S = A := ⟨_, rfl⟩
      obtain ⟨n1, hn1⟩ : ∃ n, D.D.length = n := ⟨_, rfl⟩
      have HTT : Hid (D.T = T) := hT
      rw [hF, hT, hC, hS, hn1] at hR
      rw [hF] at r0
      rw [hT] at r1
      rw [hC] at r2
      rw [hn1] at r3
      rw [hS] at r4
      have HB0 : Hid (Below w.heap.size w wr) := hb.out
      clear hb hF hT hC hS hn1
      go_wp2_with fail
      refine (implBackupOK _ D _ SD.out (hR.out.below ((Below.refl _ _).alloc (Nat.le_refl _) _))).mono ?_
      rintro e w2 ⟨rfl, hb2⟩
      have B2 : Hid (Below w.heap.size w w2) := HB0.out.trans ((Below.new hb2).mono HB0.out.size)
      clear HB0 r0 r1 r2 r3 r4 hb2 hR
      cases hok : okK D with
      | false =>
        have F9 : Hid (rbA H = ([], 1)) := all_badR KH.out.1 KH.out.2 hok
        go_wp2_with fail
        go_ret2
        refine .inl ⟨w2.heap.size, w2.heap.size + 1, (k : Int), 1, rfl, F9.out, (Box.new rfl).old _, Box.new (by simp), ?_⟩
        exact Below.alloc (Below.alloc B2.out B2.out.size _) (by have h9 := B2.out.size; simp; omega) _
      | true =>
        have AK : Hid ((H.take (k + 1)).all okK = true) := by show _ = _; rw [take_snocR KH.out.1 KH.out.2, List.all_append, hall.out]; simp [hok]
        clear hall hok
        go_wp2_with fail
        exact ⟨⟨k + 1, by omega, by go_num, AK.out, B2.out⟩, by simp [RowKit.intOf]; omega⟩
    · have hkn : k = n := by omega
      have ALL : Hid (H.all okK = true) := by
        have h9 := hall.out
        rw [List.take_of_length_le (by rw [HL.out]; omega)] at h9
        exact h9
      have RG : Hid (rbA H = rgoA H [] ⟨#[]⟩ 0) := by show _ = _; unfold rbA; rw [if_pos ALL.out]
      have B0 : Hid (Below w.heap.size w wr) := hb.out
      obtain ⟨wq, rfl⟩ : ∃ W, W = wr := ⟨_, rfl⟩
      obtain ⟨tb, htb⟩ : ∃ t, wq.heap.size = t := ⟨_, rfl⟩
      have HTB : Hid (wq.heap.size = tb ∧ w.heap.size ≤ tb) := ⟨htb, by rw [← htb]; exact B0.out.size⟩
      clear hkn hall hb
      go_wp2_with fail
      try rw [htb]
      clear htb
      go_loopw [32] (fun i wr => ∃ (k m : Nat) (P : List PM) (l : ByteArray) (c : Int) (ua : Option Addr) (uc : Nat), k ≤ n ∧ i = .int .i64 (k : Int) ∧ Hid (P.length = m ∧ okP P = true) ∧ Hid (rbA H = rgoA (H.drop k) P l c) ∧ Hid (Box wr tb [.slice ua m uc, .string l, .int .i64 c]) ∧ Hid (wr.ownsRow (tb + 1) 70 2 (.slice ua m uc) m (cellsP P)) ∧ Hid (Below w.heap.size w wr)) (fun i _ => n - (RowKit.intOf i).toNat)
      case atStart =>
        exact ⟨0, 0, [], _, _, _, 0, by omega, rfl, ⟨rfl, okP_nil⟩, RG.out, Box.new HTB.out.1.symm, World.ownsRow_nil _ _ _ _, B0.out.alloc B0.out.size _⟩
      case round =>
        obtain ⟨k, m, P, l, c9, ua, uc, hk, rfl, HP, HG, HT, HO, hb⟩ := hrel
        by_cases hlt : k < n
        · have hki : (k : Int) < (n : Int) := by omega
          obtain ⟨b1, o1, D, a1, c1, rfl, r0, r1, r2, r3, r4, hD, hR⟩ := srcBk (HH.out.below hb.out) (i := k) (by rw [HL.out]; exact hlt)
          have SD : Hid (smallK D) := by show smallK D; rw [← hD.out]; exact HS.out k hlt
          have KH : Hid (k < H.length ∧ H.getD k bk0 = D) := ⟨by rw [HL.out]; exact hlt, hD.out⟩
          obtain ⟨F, hF⟩ : ∃ A, D.F = A := ⟨_, rfl⟩
          obtain ⟨T, hT⟩ : ∃ A, D.T = A := ⟨_, rfl⟩
          obtain ⟨C, hC⟩ : ∃ A, D.C = A := ⟨_, rfl⟩
          obtain ⟨S, hS⟩ : ∃ A, D.S = A := ⟨_, rfl⟩
          obtain ⟨n1, hn1⟩ : ∃ n, D.D.length = n := ⟨_, rfl⟩
          have HTT : Hid (D.T = T) := hT
          rw [hF, hT, hC, hS, hn1] at hR
          rw [hF] at r0
          rw [hT] at r1
          rw [hC] at r2
          rw [hn1] at r3
          rw [hS] at r4
          have HB0 : Hid (Below w.heap.size w wr) := hb.out
          have HOK : Hid (okK D = true) := all_atR ALL.out KH.out.1 KH.out.2
          have HD9 : Hid (H.drop k = D :: H.drop (k + 1)) := drop_consR KH.out.1 KH.out.2
          have SU : Hid (Src wr ua (cellsP P)) := (own_src HO.out).elim fun a9 h9 => by obtain ⟨c8, e9, s9, _⟩ := h9; cases e9; exact s9
          have ZT : Hid (tb < wr.heap.size) := World.block_lt_of_cell? _ _ (HT.out 0 _ rfl).1
          clear hb hF hT hC hS hn1
          go_wp2_with fail
          have A1 : Below wr.heap.size wr (wr.alloc (.cells #[.string F, .string T, .int .i64 C, .slice a1 n1 c1, .int .i64 S] 34)) := (Below.refl _ _).alloc (Nat.le_refl _) _
          refine (followI P l c9 D _ ua m uc tb _ HP.out.1 HP.out.2 HOK.out SD.out (SU.out.below A1) (hR.out.below A1) (HT.out.below A1) (HF9.out.below (HB0.out.trans (A1.mono HB0.out.size)))).mono ?_
          rintro e w2 (⟨eb, q, hq, rfl, hfo, hbx, hb2⟩ | ⟨w4, u, R, rfl, hfo, o4, hb4, hw3⟩)
          · have F9 : Hid (rbA H = ([], q)) := by show _ = _; rw [HG.out, HD9.out, rgo_bad hfo hq]
            have B2 : Hid (Below w.heap.size w w2) := (HB0.out.trans (A1.mono HB0.out.size)).trans (hb2.mono (by have h9 := HB0.out.size; simp; omega))
            have E2 : Hid (Box w2 eb [.int .i64 q]) := hbx
            clear A1 HB0 r0 r1 r2 r3 r4 hb2 hR hbx hfo SU
            go_wp2_with fail
            go_ret2
            exact .inl ⟨eb, w2.heap.size, (k : Int), q, rfl, F9.out, E2.out.old _, Box.new rfl, B2.out.alloc B2.out.size _⟩
          · have T4 : Hid (Box w4 tb [.slice ua m uc, .string l, .int .i64 c9]) := (HT.out.below A1).below hb4
            have B4 : Hid (Below w.heap.size w w4) := (HB0.out.trans (A1.mono HB0.out.size)).trans (hb4.mono (by have h9 := HB0.out.size; simp; omega))
            obtain ⟨va, vc, rfl, _, _⟩ := own_src o4
            have R2 : Hid (folA P l c9 D = (R, 0)) := hfo
            have K2 : Hid (okP R = true) := fol_len HP.out.2 hfo
            obtain ⟨y, hy⟩ : ∃ y, linkN D = y := ⟨_, rfl⟩
            have F9 : Hid (rbA H = rgoA (H.drop (k + 1)) R T (y : Int)) := by show _ = _; rw [HG.out, HD9.out, rgo_good R2.out, HTT.out, hy]
            rw [HTT.out, hy] at hw3
            obtain ⟨z, hz⟩ : ∃ z, R.length = z := ⟨_, rfl⟩
            have HZ : Hid (R.length = z) := hz
            rw [hz] at o4 hw3
            have B5 : Hid (Below w.heap.size w w2) := by
              rw [hw3]
              exact Below.setCell (Below.setCell (Below.setCell B4.out (by dsimp only; exact HTB.out.2) _) (by dsimp only; exact HTB.out.2) _) (by dsimp only; exact HTB.out.2) _
            have O5 : Hid (w2.ownsRow (tb + 1) 70 2 (.slice va z vc) z (cellsP R)) := by
              rw [hw3]
              have h8 : tb + 1 ≤ (wr.alloc (.cells #[.string F, .string T, .int .i64 C, .slice a1 n1 c1, .int .i64 S] 34)).heap.size := by have h9 := ZT.out; simp; omega
              have o5 := own_mono o4 h8
              exact own_setLow (own_setLow (own_setLow o5 (by dsimp only; omega) _) (by dsimp only; omega) _) (by dsimp only; omega) _
            have T5 : Hid (Box w2 tb [.slice va z vc, .string T, .int .i64 (y : Int)]) := by
              rw [hw3]
              exact (((T4.out.set 0 (.slice va z vc)).set 1 (.string T)).set 2 (.int .i64 (y : Int)))
            clear A1 HB0 r0 r1 r2 r3 r4 hb4 hR hfo SU T4 B4 o4 hw3 hz hy
            go_wp2_with fail
            exact ⟨⟨k + 1, z, R, T, _, va, vc, by omega, by go_num, ⟨HZ.out, K2.out⟩, F9.out, T5.out, O5.out, B5.out⟩, by simp [RowKit.intOf]; omega⟩
        · have hkn : k = n := by omega
          have RR : Hid (rbA H = (P, 0)) := by
            show _ = _
            rw [HG.out, List.drop_of_length_le (by rw [HL.out]; omega), rgoA]
          have B3 : Hid (Below w.heap.size w wr) := hb.out
          have O3 : Hid (wr.ownsRow w.heap.size 70 2 (.slice ua m uc) m (cellsP P)) := own_mono HO.out (by have h9 := HTB.out.2; omega)
          obtain ⟨t0, t1, t2⟩ := cells3 HT.out
          clear hkn hb HG
          go_wp2_with fail
          go_ret2
          exact .inr ⟨_, P, rfl, RR.out, by rw [HP.out.1]; exact O3.out, B3.out⟩

set_option maxHeartbeats 4000000 in
theorem implReplayAll (a : Option Addr) (n c : Nat) (H : List BM) (w : World) (hL : H.length = n) (hn : n ≤ 1048576) (hs : ∀ D ∈ H, smallK D) (h : ReadsBL w a H) (hH : HasHalf w) (hE : HasErr w) :
    Calls Tryz.prog 21 #[.slice a n c] w fun e w' => ∃ u R q, e = .returned (.tuple #[u, .int .i64 q]) ∧ rpaA H = (R, q) ∧ w'.ownsRow w.heap.size 70 2 u R.length (cellsP R) ∧ Below w.heap.size w w' := by
  have HL : Hid (H.length = n) := hL
  have HH : Hid (ReadsBL w a H ∧ (∀ D ∈ H, smallK D) ∧ HasHalf w ∧ HasErr w) := ⟨h, hs, hH, hE⟩
  clear h hs hL hH hE
  by_cases t1 : 4096 < n
  · have F : Hid (rpaA H = ([], 2)) := by show _ = _; unfold rpaA; rw [if_pos (by rw [HL.out]; exact t1)]
    go_enter Tryz.func21, Tryz.ntmps21
    go_wp2_with fail
    refine (chainFault n _).mono ?_
    rintro e w1 ⟨rfl, rfl⟩
    rw [if_pos t1]
    go_wp2_with fail
    go_ret2
    exact ⟨_, [], 2, rfl, F.out, World.ownsRow_nil _ _ _ _, Below.refl _ _⟩
  by_cases t2 : 20 < n
  · have F : Hid (rpaA H = ([], 6)) := by show _ = _; unfold rpaA; rw [if_neg (by rw [HL.out]; exact t1), if_pos (by rw [HL.out]; exact t2)]
    go_enter Tryz.func21, Tryz.ntmps21
    go_wp2_with fail
    refine (chainFault n _).mono ?_
    rintro e w1 ⟨rfl, rfl⟩
    rw [if_neg t1, if_pos t2]
    go_wp2_with fail
    go_ret2
    exact ⟨_, [], 6, rfl, F.out, World.ownsRow_nil _ _ _ _, Below.refl _ _⟩
  have RA : Hid (rpaA H = rbA H) := by show _ = _; unfold rpaA; rw [if_neg (by rw [HL.out]; exact t1), if_neg (by rw [HL.out]; exact t2)]
  go_enter Tryz.func21, Tryz.ntmps21
  go_wp2_with fail
  refine (chainFault n _).mono ?_
  rintro e w1 ⟨rfl, rfl⟩
  rw [if_neg t1, if_neg t2]
  go_wp2_with fail
  refine (replayedI a n c H _ HL.out hn HH.out.2.1 HH.out.1 HH.out.2.2.1).mono ?_
  rintro e w2 (⟨eb, ep, k, q, rfl, hr, hb1, hb2, hbl⟩ | ⟨u, R, rfl, hr, ho, hbl⟩)
  · have F : Hid (rpaA H = ([], q)) := RA.out.trans hr
    have B2 : Hid (Below w1.heap.size w1 w2) := hbl
    have E2 : Hid (Box w2 eb [.int .i64 q] ∧ Box w2 ep [.int .i64 k, .iface 113 (.pointer (some ⟨eb, 0, none⟩))]) := ⟨hb1, hb2⟩
    clear hr hb1 hb2 hbl
    go_wp2_with fail
    refine (codeInP eb ep k q _ E2.out.1 E2.out.2 (HH.out.2.2.2.below B2.out)).mono ?_
    rintro e w3 ⟨rfl, hb3⟩
    have B3 : Hid (Below w1.heap.size w1 w3) := B2.out.trans (hb3.mono B2.out.size)
    clear hb3
    go_wp2_with fail
    go_ret2
    exact ⟨_, [], q, rfl, F.out, World.ownsRow_nil _ _ _ _, B3.out⟩
  · have F : Hid (rpaA H = (R, 0)) := RA.out.trans hr
    have B2 : Hid (Below w1.heap.size w1 w2) := hbl
    have O2 : Hid (w2.ownsRow w1.heap.size 70 2 u R.length (cellsP R)) := ho
    clear hr ho hbl
    go_wp2_with fail
    refine (codeInN _).mono ?_
    rintro e w3 ⟨rfl, hw3⟩
    obtain rfl := hw3.symm
    go_wp2_with fail
    go_ret2
    exact ⟨_, R, 0, rfl, F.out, O2.out, B2.out⟩
end Go.Proofs.YtmbndpgoihdpnaaGreatDoor
namespace Go.Proofs.YtmbndpgoihdpnaaGreatDoor
open Go.ChangeShapes Go.WideShapes Go.ChangeAt Go.RowKit Go.Deep
set_option linter.unusedVariables false

theorem place_unique {f : Nat → ByteArray} {n : Nat} {k : ByteArray} {p q : Nat} (hp : IsPlace f n k p) (hq : IsPlace f n k q) : p = q := by
  rcases Nat.lt_trichotomy p q with h | h | h
  · have h1 := hp.2.2 (by have := hq.1; omega)
    rw [hq.2.1 p h] at h1
    cases h1
  · exact h
  · have h1 := hq.2.2 (by have := hp.1; omega)
    rw [hp.2.1 q h] at h1
    cases h1
theorem plc_app {P Q : List PM} {k : ByteArray} (hP : ∀ x ∈ P, ltK x.1 k) (hQ : ∀ x L, Q = x :: L → ¬ ltK x.1 k) : plc (P ++ Q) k = P.length := by
  refine place_unique (plc_is (P ++ Q) k) ⟨by simp, fun j hj => ?_, fun h => ?_⟩
  · have h9 := (at_fst (L := P ++ Q) (i := j) (by simp; omega)).1
    rw [h9, List.getElem_append_left hj]
    exact hP _ (List.getElem_mem hj)
  · have h9 := (at_fst (L := P ++ Q) (i := P.length) h).1
    rw [h9, List.getElem_append_right (Nat.le_refl _)]
    cases Q with
    | nil => simp at h
    | cons x L =>
      have h8 := hQ x L rfl
      unfold ltK at h8
      simp only [Nat.sub_self, List.getElem_cons_zero]
      simpa using h8
theorem step_ins {P Q : List PM} {d : DF} (hP : ∀ x ∈ P, ltK x.1 d.1) (hQ : ∀ x ∈ Q, ltK d.1 x.1) : stepM (P ++ Q) d = P ++ (if d.2.2.2.2 = true then [(d.1, d.2.2.1)] else []) ++ Q := by
  have hp := plc_app (P := P) (Q := Q) hP (fun x L e h9 => by subst e; exact ltK_irrefl _ (ltK_trans h9 (hQ x (by simp))))
  have hb : beh (P ++ Q) d.1 = P.length := by
    unfold beh
    rw [hp, if_neg]
    intro h
    unfold hitB at h
    rw [Bool.and_eq_true, decide_eq_true_eq] at h
    have h9 := (at_fst (L := P ++ Q) (i := P.length) h.1).1
    have h8 : (fstL (P ++ Q) P.length).toList = d.1.toList := by simpa using h.2
    rw [h9] at h8
    have h7 := toList_inj h8
    have h6 : (P ++ Q)[P.length] ∈ Q := by rw [List.getElem_append_right (Nat.le_refl _)]; exact List.getElem_mem _
    have h5 := hQ _ h6
    rw [h7] at h5
    exact ltK_irrefl _ h5
  unfold stepM
  rw [hb, hp, List.take_left, List.drop_left]
theorem step_hit {P Q : List PM} {z : PM} {d : DF} (hz : z.1 = d.1) (hP : ∀ x ∈ P, ltK x.1 d.1) : stepM (P ++ z :: Q) d = P ++ (if d.2.2.2.2 = true then [(d.1, d.2.2.1)] else []) ++ Q := by
  have hp := plc_app (P := P) (Q := z :: Q) hP (fun x L e h9 => by cases e; rw [hz] at h9; exact ltK_irrefl _ h9)
  have hb : beh (P ++ z :: Q) d.1 = P.length + 1 := by
    unfold beh
    rw [hp, if_pos]
    unfold hitB
    rw [Bool.and_eq_true, decide_eq_true_eq]
    have hlt : P.length < (P ++ z :: Q).length := by simp
    refine ⟨hlt, ?_⟩
    rw [(at_fst hlt).1, List.getElem_append_right (Nat.le_refl _)]
    simp only [Nat.sub_self, List.getElem_cons_zero]
    rw [hz]
    simp
  unfold stepM
  rw [hb, hp, List.take_left]
  congr 1
  rw [← List.drop_drop, List.drop_left]
  rfl
theorem held_app : ∀ {P Q : List PM} {k : ByteArray}, (∀ x ∈ P, ltK x.1 k) → heldM (P ++ Q) k = heldM Q k
  | [], Q, k, _ => rfl
  | x :: P, Q, k, h => by
    show heldM (x :: (P ++ Q)) k = _
    rw [heldM_ne (ltK_ne (h x (by simp))), held_app fun y hy => h y (by simp [hy])]
theorem form_mk {k o n : ByteArray} {p q : Bool} (hk : keyB k = true) (ho : sideB o p = true) (hn : sideB n q = true) (h : (p || q) = true) : formB (k, o, n, p, q) = true := by rw [formB_of, hk, ho, hn, h]; rfl
theorem fit_key {x y : ByteArray} (h : fitB x y = true) : keyB x = true ∧ sideB y true = true := by
  unfold fitB at h
  rw [Bool.and_eq_true, decide_eq_true_eq] at h
  exact ⟨h.1, decide_eq_true (by omega)⟩
theorem run_diff (a b : List PM) (P : List PM) (h1 : ∀ x ∈ P, ∀ y ∈ a, ltK x.1 y.1) (h2 : ∀ x ∈ P, ∀ y ∈ b, ltK x.1 y.1) (ha : UpL a) (hb : UpL b) (fa : ∀ x ∈ a, fitB x.1 x.2 = true) (fb : ∀ x ∈ b, fitB x.1 x.2 = true) : runM (P ++ a) (diffM a b) = (P ++ b, 0) := by
  induction a, b using diffM.induct generalizing P with
  | case1 => simp [diffM, runM]
  | case2 x a ih =>
    have hu := up_cons ha
    have hx := fit_key (fa x (by simp))
    have hP : ∀ z ∈ P, ltK z.1 x.1 := fun z hz => h1 z hz x (by simp)
    rw [diffM, run_step (form_mk hx.1 hx.2 rfl rfl) (by rw [held_app hP, heldM_eq]), step_hit (d := (x.1, x.2, e0, true, false)) rfl hP]
    have h9 := ih P (fun z hz y hy => h1 z hz y (by simp [hy])) h2 hu.2 hb (fun z hz => fa z (by simp [hz])) fb
    simpa using h9
  | case3 y b ih =>
    have hu := up_cons hb
    have hy := fit_key (fb y (by simp))
    have hP : ∀ z ∈ P, ltK z.1 y.1 := fun z hz => h2 z hz y (by simp)
    rw [diffM, run_step (form_mk hy.1 rfl hy.2 rfl) (by rw [held_app hP]; rfl), step_ins (d := (y.1, e0, y.2, false, true)) hP (fun z hz => by cases hz)]
    have h9 := ih (P ++ [y]) (fun z hz w hw => by cases hw) (fun z hz w hw => by
      rcases List.mem_append.1 hz with e | e
      · exact h2 z e w (by simp [hw])
      · rw [List.mem_singleton.1 e]; exact hu.1 w hw) ha hu.2 fa (fun z hz => fb z (by simp [hz]))
    simpa using h9
  | case4 x a y b hlt ih =>
    have hu := up_cons ha
    have hx := fit_key (fa x (by simp))
    have hP : ∀ z ∈ P, ltK z.1 x.1 := fun z hz => h1 z hz x (by simp)
    rw [diffM, if_pos hlt, run_step (form_mk hx.1 hx.2 rfl rfl) (by rw [held_app hP, heldM_eq]), step_hit (d := (x.1, x.2, e0, true, false)) rfl hP]
    have h9 := ih P (fun z hz w hw => h1 z hz w (by simp [hw])) h2 hu.2 hb (fun z hz => fa z (by simp [hz])) fb
    simpa using h9
  | case5 x a y b hlt hlt2 ih =>
    have hu := up_cons ha
    have hv := up_cons hb
    have hy := fit_key (fb y (by simp))
    have hxy : ltK y.1 x.1 := hlt2
    have hall : ∀ z ∈ x :: a, ltK y.1 z.1 := fun z hz => by
      rcases List.mem_cons.1 hz with e | e
      · rw [e]; exact hxy
      · exact ltK_trans hxy (hu.1 z e)
    have hP : ∀ z ∈ P, ltK z.1 y.1 := fun z hz => h2 z hz y (by simp)
    rw [diffM, if_neg hlt, if_pos hlt2, run_step (form_mk hy.1 rfl hy.2 rfl) (by rw [held_app hP, heldM_none (fun z hz => (ltK_ne (hall z hz)).symm)]), step_ins (d := (y.1, e0, y.2, false, true)) hP hall]
    have h9 := ih (P ++ [y]) (fun z hz w hw => by
      rcases List.mem_append.1 hz with e | e
      · exact h1 z e w hw
      · rw [List.mem_singleton.1 e]; exact hall w hw) (fun z hz w hw => by
      rcases List.mem_append.1 hz with e | e
      · exact h2 z e w (by simp [hw])
      · rw [List.mem_singleton.1 e]; exact hv.1 w hw) ha hv.2 fa (fun z hz => fb z (by simp [hz]))
    simpa using h9
  | case6 x a y b hlt hlt2 ih =>
    have hu := up_cons ha
    have hv := up_cons hb
    have hxy : x.1 = y.1 := by
      apply Decidable.byContradiction
      intro hne
      rcases ltK_total hne with e | e
      · exact hlt e
      · exact hlt2 e
    have hx := fit_key (fa x (by simp))
    have hy := fit_key (fb y (by simp))
    have hP : ∀ z ∈ P, ltK z.1 x.1 := fun z hz => h1 z hz x (by simp)
    have h9 := ih (P ++ [y]) (fun z hz w hw => by
      rcases List.mem_append.1 hz with e | e
      · exact h1 z e w (by simp [hw])
      · rw [List.mem_singleton.1 e, ← hxy]; exact hu.1 w hw) (fun z hz w hw => by
      rcases List.mem_append.1 hz with e | e
      · exact h2 z e w (by simp [hw])
      · rw [List.mem_singleton.1 e]; exact hv.1 w hw) hu.2 hv.2 (fun z hz => fa z (by simp [hz])) (fun z hz => fb z (by simp [hz]))
    rw [diffM, if_neg hlt, if_neg hlt2]
    by_cases hval : x.2 = y.2
    · rw [if_pos hval, List.nil_append]
      have e1 : x = y := Prod.ext hxy hval
      subst e1
      simpa using h9
    · rw [if_neg hval, List.cons_append, List.nil_append, run_step (form_mk hx.1 hx.2 hy.2 rfl) (by rw [held_app hP, heldM_eq]), step_hit (d := (x.1, x.2, y.2, true, true)) rfl hP]
      have e1 : ((x.1, y.2) : PM) = y := Prod.ext hxy rfl
      simp only [if_true, e1]
      simpa using h9
theorem GoodL.okP {L : List PM} (h : GoodL L) (hn : L.length ≤ 60) : okP L = true := h.pairsB hn
theorem apply_diff {a b : List PM} (ha : GoodL a) (hb : GoodL b) (la : a.length ≤ 60) (lb : b.length ≤ 60) : applyA a (diffM a b) = (b, 0) := by
  have h1 := run_diff a b [] (fun x hx => by cases hx) (fun x hx => by cases hx) ha.2 hb.2 ha.1 hb.1
  have h2 := diffM_len a b
  rw [List.nil_append, List.nil_append] at h1
  unfold applyA
  rw [if_neg (by omega), if_neg (by rw [ha.okP la]; decide), if_neg (by omega), h1, if_neg (by simp), if_neg (by simp only; omega)]
theorem diffA_good {a b : List PM} (ha : GoodL a) (hb : GoodL b) (la : a.length ≤ 60) (lb : b.length ≤ 60) : diffA a b = (diffM a b, 0) := by
  unfold diffA
  rw [if_neg (by omega), if_neg (by rw [ha.okP la, hb.okP lb]; simp)]
theorem diff_nil {a b : List PM} (ha : GoodL a) (hb : GoodL b) (h : diffM a b = []) : a = b := by
  have h1 := run_diff a b [] (fun x hx => by cases hx) (fun x hx => by cases hx) ha.2 hb.2 ha.1 hb.1
  rw [h, List.nil_append, List.nil_append, runM] at h1
  exact (Prod.mk.inj h1).1
theorem diff_self {a : List PM} (ha : UpL a) : diffM a a = [] := by
  rw [← keysM_diff a a ha ha, List.filterMap_eq_nil_iff]
  intro k _
  unfold diffAt
  rw [if_pos rfl]
theorem filterMap_len {α β γ : Type} {f : α → Option β} {g : α → Option γ} (h : ∀ x, (f x).isSome = (g x).isSome) : ∀ l : List α, (l.filterMap f).length = (l.filterMap g).length
  | [] => rfl
  | x :: l => by
    have ih := filterMap_len h l
    have h9 := h x
    cases hf : f x <;> cases hg : g x <;> rw [hf, hg] at h9 <;> simp [hf, hg, ih] at h9 ⊢
theorem diff_back {a b : List PM} (ha : UpL a) (hb : UpL b) : (diffM b a).length = (diffM a b).length := by
  have hk : KeysOf (keysM a b) b a := ⟨(keysM_of a b).1, fun k => ((keysM_of a b).2 k).trans Or.comm⟩
  rw [← diff_keys b a (keysM a b) hb ha hk, ← keysM_diff a b ha hb]
  refine filterMap_len (fun k => ?_) _
  unfold diffAt
  by_cases h : heldM a k = heldM b k
  · rw [if_pos h.symm, if_pos h]
  · rw [if_neg (fun e => h e.symm), if_neg h]; rfl
theorem held_good {L : List PM} (h : ∀ x ∈ L, fitB x.1 x.2 = true) (k : ByteArray) : sideB (heldM L k).1 (heldM L k).2 = true := by
  induction L with
  | nil => rfl
  | cons x L ih =>
    by_cases e : x.1 = k
    · subst e
      rw [heldM_eq]
      exact (fit_key (h x (by simp))).2
    · rw [heldM_ne e]
      exact ih fun y hy => h y (by simp [hy])
theorem held_there : ∀ {L : List PM} {k : ByteArray}, (∃ x ∈ L, x.1 = k) → (heldM L k).2 = true
  | [], k, ⟨x, hx, _⟩ => by cases hx
  | y :: L, k, ⟨x, hx, e⟩ => by
    by_cases h : y.1 = k
    · subst h; rw [heldM_eq]
    · rw [heldM_ne h]
      rcases List.mem_cons.1 hx with e2 | e2
      · subst e2; exact absurd e h
      · exact held_there ⟨x, e2, e⟩
theorem diff_other {a b : List PM} (ha : GoodL a) (hb : GoodL b) (la : a.length ≤ 60) (lb : b.length ≤ 60) (h : diffM a b ≠ []) : applyA b (diffM a b) = (b, 18) := by
  have h2 := diffM_len a b
  cases hd : diffM a b with
  | nil => exact absurd hd h
  | cons d ds =>
    have hm : d ∈ (keysM a b).filterMap (diffAt a b) := by rw [keysM_diff a b ha.2 hb.2, hd]; simp
    obtain ⟨k, hk, hdk⟩ := List.mem_filterMap.1 hm
    unfold diffAt at hdk
    by_cases he : heldM a k = heldM b k
    · rw [if_pos he] at hdk; cases hdk
    · rw [if_neg he] at hdk
      have ek := ((keysM_of a b).2 k).1 hk
      cases hdk
      have hkey : keyB k = true := by
        rcases ek with ⟨x, hx, e⟩ | ⟨x, hx, e⟩
        · rw [← e]; exact (fit_key (ha.1 x hx)).1
        · rw [← e]; exact (fit_key (hb.1 x hx)).1
      have hor : ((heldM a k).2 || (heldM b k).2) = true := by
        rcases ek with e | e
        · rw [held_there e]; rfl
        · rw [held_there e]; simp
      have hr : runM b ((k, (heldM a k).1, (heldM b k).1, (heldM a k).2, (heldM b k).2) :: ds) = ([], 18) := run_old (form_mk hkey (held_good ha.1 k) (held_good hb.1 k) hor) (fun e => he e.symm)
      rw [hd] at h2
      unfold applyA
      rw [if_neg (by omega), if_neg (by rw [hb.okP lb]; decide), if_neg (by omega), hr, if_pos (by decide)]
theorem diff_form {a b : List PM} (ha : GoodL a) (hb : GoodL b) {d : DF} (h : d ∈ diffM a b) : formB d = true := by
  rw [← keysM_diff a b ha.2 hb.2] at h
  obtain ⟨k, hk, hdk⟩ := List.mem_filterMap.1 h
  unfold diffAt at hdk
  by_cases he : heldM a k = heldM b k
  · rw [if_pos he] at hdk; cases hdk
  · rw [if_neg he] at hdk
    have ek := ((keysM_of a b).2 k).1 hk
    cases hdk
    have hkey : keyB k = true := by
      rcases ek with ⟨x, hx, e⟩ | ⟨x, hx, e⟩
      · rw [← e]; exact (fit_key (ha.1 x hx)).1
      · rw [← e]; exact (fit_key (hb.1 x hx)).1
    have hor : ((heldM a k).2 || (heldM b k).2) = true := by
      rcases ek with e | e
      · rw [held_there e]; rfl
      · rw [held_there e]; simp
    exact form_mk hkey (held_good ha.1 k) (held_good hb.1 k) hor
theorem diff_sizes {a b : List PM} (ha : GoodL a) (hb : GoodL b) : ∀ x ∈ diffM a b, x.1.size ≤ 1048576 ∧ x.2.1.size ≤ 1048576 ∧ x.2.2.1.size ≤ 1048576 := fun x hx => by
  have h := diff_form ha hb hx
  unfold formB at h
  simp only [Bool.and_eq_true] at h
  have h1 := key_size h.1.1.1
  have h2 := side_le h.1.1.2
  have h3 := side_le h.1.2
  omega
theorem good_sizes {a : List PM} (ha : GoodL a) : ∀ x ∈ a, x.1.size ≤ 1048576 ∧ x.2.size ≤ 1048576 := fun x hx => by
  have h := fit_key (ha.1 x hx)
  have h1 := key_size h.1
  have h2 := side_le h.2
  omega
end Go.Proofs.YtmbndpgoihdpnaaGreatDoor
namespace Go.Proofs.YtmbndpgoihdpnaaGreatDoor
open Go.ChangeShapes Go.WideShapes Go.ChangeAt Go.RowKit Go.Deep
set_option linter.unusedVariables false
set_option maxRecDepth 100000

theorem diff_low {k : ByteArray} (a b : List PM) (ha : ∀ x ∈ a, ltK k x.1) (hb : ∀ x ∈ b, ltK k x.1) : ∀ d ∈ diffM a b, ltK k d.1 := by
  induction a, b using diffM.induct with
  | case1 => intro d hd; simp [diffM] at hd
  | case2 x a ih =>
    intro d hd
    rw [diffM, List.mem_cons] at hd
    rcases hd with rfl | hd
    · exact ha x (by simp)
    · exact ih (fun z hz => ha z (by simp [hz])) hb d hd
  | case3 y b ih =>
    intro d hd
    rw [diffM, List.mem_cons] at hd
    rcases hd with rfl | hd
    · exact hb y (by simp)
    · exact ih ha (fun z hz => hb z (by simp [hz])) d hd
  | case4 x a y b h ih =>
    intro d hd
    rw [diffM, if_pos h, List.mem_cons] at hd
    rcases hd with rfl | hd
    · exact ha x (by simp)
    · exact ih (fun z hz => ha z (by simp [hz])) hb d hd
  | case5 x a y b h h2 ih =>
    intro d hd
    rw [diffM, if_neg h, if_pos h2, List.mem_cons] at hd
    rcases hd with rfl | hd
    · exact hb y (by simp)
    · exact ih ha (fun z hz => hb z (by simp [hz])) d hd
  | case6 x a y b h h2 ih =>
    intro d hd
    rw [diffM, if_neg h, if_neg h2, List.mem_append] at hd
    rcases hd with hd | hd
    · split at hd
      · simp at hd
      · rw [List.mem_singleton] at hd
        subst hd
        exact ha x (by simp)
    · exact ih (fun z hz => ha z (by simp [hz])) (fun z hz => hb z (by simp [hz])) d hd
theorem ltK_same {x y : ByteArray} (h : ¬ Op.bytesLess x.toList y.toList = true) (h2 : ¬ Op.bytesLess y.toList x.toList = true) : x = y := by
  by_cases e : x = y
  · exact e
  · rcases ltK_total e with k | k
    · exact absurd k h
    · exact absurd k h2
theorem diff_up (a b : List PM) (ha : UpL a) (hb : UpL b) : (diffM a b).Pairwise fun x y => ltK x.1 y.1 := by
  induction a, b using diffM.induct with
  | case1 => rw [diffM]; exact List.Pairwise.nil
  | case2 x a ih =>
    have hu := up_cons ha
    rw [diffM]
    exact List.pairwise_cons.2 ⟨diff_low a [] hu.1 (fun z hz => by cases hz), ih hu.2 hb⟩
  | case3 y b ih =>
    have hu := up_cons hb
    rw [diffM]
    exact List.pairwise_cons.2 ⟨diff_low [] b (fun z hz => by cases hz) hu.1, ih ha hu.2⟩
  | case4 x a y b h ih =>
    have hu := up_cons ha
    have hv := up_cons hb
    rw [diffM, if_pos h]
    refine List.pairwise_cons.2 ⟨diff_low a (y :: b) hu.1 (fun z hz => ?_), ih hu.2 hb⟩
    rcases List.mem_cons.1 hz with rfl | hz
    · exact h
    · exact ltK_trans h (hv.1 z hz)
  | case5 x a y b h h2 ih =>
    have hu := up_cons ha
    have hv := up_cons hb
    rw [diffM, if_neg h, if_pos h2]
    refine List.pairwise_cons.2 ⟨diff_low (x :: a) b (fun z hz => ?_) hv.1, ih ha hv.2⟩
    rcases List.mem_cons.1 hz with rfl | hz
    · exact h2
    · exact ltK_trans h2 (hu.1 z hz)
  | case6 x a y b h h2 ih =>
    have hu := up_cons ha
    have hv := up_cons hb
    have e : x.1 = y.1 := ltK_same h h2
    rw [diffM, if_neg h, if_neg h2]
    have hr := ih hu.2 hv.2
    split
    · exact hr
    · exact List.pairwise_cons.2 ⟨diff_low a b hu.1 (fun z hz => by show ltK x.1 z.1; rw [e]; exact hv.1 z hz), hr⟩
theorem okK_made {F T : ByteArray} {C : Int} {a b : List PM} {s : Nat} (ha : GoodL a) (hb : GoodL b) (la : a.length ≤ 60) (lb : b.length ≤ 60) (hf : followsB F T C = true) (hs : s < 4294967296) : okK ⟨F, T, C, diffM a b, (s : Int)⟩ = true := by
  unfold okK
  have h1 : u32B (s : Int) = true := by unfold u32B; simp; omega
  have h2 : (diffM a b).length ≤ 120 := by have := diffM_len a b; omega
  have h3 : difsB (diffM a b) = true := by
    refine difs_good fun k hk => ?_
    unfold difB
    rw [Bool.and_eq_true]
    have hm : ∀ i, i < (diffM a b).length → (diffM a b).getD i df0 ∈ diffM a b := fun i hi => by
      rw [List.getD_eq_getElem?_getD, List.getElem?_eq_getElem hi]; exact List.getElem_mem _
    refine ⟨diff_form ha hb (hm k hk), ?_⟩
    unfold upD
    rw [Bool.or_eq_true, decide_eq_true_eq]
    by_cases e : k = 0
    · exact .inl e
    · right
      have hp := List.pairwise_iff_getElem.1 (diff_up a b ha.2 hb.2) (k - 1) k (by omega) hk (by omega)
      rw [List.getD_eq_getElem?_getD, List.getElem?_eq_getElem (show k - 1 < (diffM a b).length by omega), List.getD_eq_getElem?_getD, List.getElem?_eq_getElem hk]
      exact hp
  show (followsB F T C && u32B (s : Int) && decide ((diffM a b).length ≤ 120) && difsB (diffM a b)) = true
  rw [hf, h1, h3]
  simp [h2]
theorem applyB_diff {a b : List PM} (ha : GoodL a) (hb : GoodL b) (la : a.length ≤ 60) (lb : b.length ≤ 60) : applyB a (diffM a b) = (b, 0) := by
  have h := apply_diff ha hb la lb
  unfold applyA at h
  rw [if_neg (by have := diffM_len a b; omega), if_neg (by rw [ha.okP la]; decide), if_neg (by have := diffM_len a b; omega)] at h
  exact h
theorem fol_made {l T : ByteArray} {C : Int} {a b : List PM} (ha : GoodL a) (hb : GoodL b) (la : a.length ≤ 60) (lb : b.length ≤ 60) : folA a l C ⟨l, T, C, diffM a b, ((sumL (fsP b) : Nat) : Int)⟩ = (b, 0) := by
  unfold folA
  rw [if_neg (by simp), if_neg (by simp)]
  show (if (applyB a (diffM a b)).2 ≠ 0 then _ else _) = _
  rw [applyB_diff ha hb la lb]
  simp
theorem fol_order {l : ByteArray} {c : Int} {P : List PM} {D : BM} (h : D.F ≠ l) : folA P l c D = (P, 13) := by unfold folA; rw [if_pos h]
theorem fol_chain {l : ByteArray} {c : Int} {P : List PM} {D : BM} (h : D.F = l) (h2 : D.C ≠ c) : folA P l c D = (P, 14) := by unfold folA; rw [if_neg (by simpa using h), if_pos h2]
theorem link_lt (D : BM) : linkN D < 4294967296 := sumL_lt _
theorem rpa_two {D E : BM} {P Q : List PM} (hD : okK D = true) (hE : okK E = true) (h1 : folA [] ⟨#[]⟩ 0 D = (P, 0)) (h2 : folA P D.T ((linkN D : Nat) : Int) E = (Q, 0)) : rpaA [D, E] = (Q, 0) := by
  unfold rpaA rbA
  rw [if_neg (by simp), if_neg (by simp), if_pos (by simp [hD, hE]), rgo_good h1, rgo_good h2, rgoA]
theorem rpa_fail {D E : BM} {P Q : List PM} {q : Int} (hD : okK D = true) (hE : okK E = true) (h1 : folA [] ⟨#[]⟩ 0 D = (P, 0)) (h2 : folA P D.T ((linkN D : Nat) : Int) E = (Q, q)) (hq : q ≠ 0) : rpaA [D, E] = ([], q) := by
  unfold rpaA rbA
  rw [if_neg (by simp), if_neg (by simp), if_pos (by simp [hD, hE]), rgo_good h1, rgo_bad h2 hq]
theorem rpa_first {D : BM} {H : List BM} {P : List PM} {q : Int} (hl : H.length ≤ 19) (hD : okK D = true) (hH : H.all okK = true) (h1 : folA [] ⟨#[]⟩ 0 D = (P, q)) (hq : q ≠ 0) : rpaA (D :: H) = ([], q) := by
  unfold rpaA rbA
  rw [if_neg (by simp; omega), if_neg (by simp; omega), if_pos (by simp only [List.all_cons, hD, hH, Bool.and_self]), rgo_bad h1 hq]
end Go.Proofs.YtmbndpgoihdpnaaGreatDoor
namespace Go.Proofs.YtmbndpgoihdpnaaGreatDoor
open Go.ChangeShapes Go.WideShapes Go.ChangeAt Go.RowKit Go.Deep
set_option linter.unusedVariables false

theorem xor_one (x : Nat) (hx : x < 4294967296) : ∃ y : Nat, bits BinOp.xor IntKind.i64 (x : Int) 1 = (y : Int) ∧ y ≠ x ∧ y < 4294967296 := by
  refine ⟨x ^^^ 1, ?_, ?_, ?_⟩
  · have h1 : (BitVec.ofInt 64 (x : Int)).toNat = x := by
      rw [BitVec.ofInt_natCast, BitVec.toNat_ofNat]; exact Nat.mod_eq_of_lt (by omega)
    have h2 : (BitVec.ofInt 64 (1 : Int)).toNat = 1 := by decide
    have hlt : x ^^^ 1 < 4294967296 := Nat.xor_lt_two_pow (n := 32) hx (by decide)
    show IntKind.i64.wrap ((BitVec.ofInt 64 (x : Int) ^^^ BitVec.ofInt 64 (1 : Int)).toNat : Int) = _
    rw [BitVec.toNat_xor, h1, h2, IntKind.wrap_i64]
    omega
  · intro h
    have h2 : x ^^^ (x ^^^ 1) = x ^^^ x := by rw [h]
    rw [← Nat.xor_assoc, Nat.xor_self, Nat.zero_xor] at h2
    cases h2
  · exact Nat.xor_lt_two_pow (n := 32) hx (by decide)
end Go.Proofs.YtmbndpgoihdpnaaGreatDoor
